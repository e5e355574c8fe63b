/-
  gcm.Seal. Printed by tools/gen_gcseal.py.
  head.Put at every head; what a head that may be keeps.
-/
import Derived.Deep.CutRange
import Derived.Test.YtbnnjkjmadnjkaaDoorGcTag
import Derived.Test.YtbnnjkjmadnjkaaDoorHPut2
namespace Go.Proofs.YtbnnjkjmadnjkaaDoor
section
open Go.RowKit
set_option linter.unusedVariables false

def z13 : List Value := .pointer none :: List.replicate 12 (.int .u8 0)
theorem zeros13 : (#[.pointer none, .int .u8 0, .int .u8 0, .int .u8 0, .int .u8 0, .int .u8 0, .int .u8 0, .int .u8 0, .int .u8 0, .int .u8 0, .int .u8 0, .int .u8 0, .int .u8 0] : Array Value) = z13.toArray := by kernel_rfl
theorem info_n12 : (Tryd.prog.info? 24).map (·.size) = some 12 := by kernel_rfl
theorem built_stream12 (g : Nat) (x0 x1 x2 x3 x4 x5 x6 x7 x8 x9 x10 x11 : UInt8) : Tryd.prog.built 85 [(0, .pointer (some ⟨g, 0, none⟩)), (1, .agg (aRow [x0, x1, x2, x3, x4, x5, x6, x7, x8, x9, x10, x11]))] = some (sRow g [x0, x1, x2, x3, x4, x5, x6, x7, x8, x9, x10, x11]) := by kernel_rfl
theorem built_stream (g : Nat) {nn : List UInt8} (h : nn.length = 12) : Tryd.prog.built 85 [(0, .pointer (some ⟨g, 0, none⟩)), (1, .agg (aRow nn))] = some (sRow g nn) := by
  match nn, h with
  | [x0, x1, x2, x3, x4, x5, x6, x7, x8, x9, x10, x11], _ => exact built_stream12 g x0 x1 x2 x3 x4 x5 x6 x7 x8 x9 x10 x11
/-- A text, sealed. -/
def sealK (key nn aad text : List UInt8) : List UInt8 := tuL (ksL key) nn text ++ tgL (ksL key) nn aad (tuL (ksL key) nn text)
theorem sealK_len (key nn aad text : List UInt8) : (sealK key nn aad text).length = text.length + 16 := by rw [sealK, List.length_append, tu_len, tg_len]

set_option maxRecDepth 100000 in
set_option maxHeartbeats 1000000 in
theorem gcseal_any (key nn l m : List UInt8) (A B : Option Addr) (c d : Nat) (w : World) (hk : key.length = 16) (hn : nn.length = 12)
    (hs : Sl w w.heap.size A l) (hlc : l.length ≤ c) (hcm : c ≤ maxLen) (hl : l.length ≤ 1048576) (ht : Sl w w.heap.size B m) (hmd : m.length ≤ d) (hdm : d ≤ maxLen) (hm : m.length ≤ 1048576) :
    Calls Tryd.prog 16 #[.agg (aRow key), .agg (aRow nn), .slice A l.length c, .slice B m.length d] w (GaveO w (sealK key nn l m)) := by
  obtain ⟨i0, hi0, hz0, hz1, hz2⟩ := info_parts info8A
  have HKL := Deep.mk hk
  have HNL := Deep.mk hn
  have HS := Lib.hid hs
  have HT := Lib.hid ht
  have HCM := Lib.hid hcm
  have HDM := Lib.hid hdm
  have HLC := Lib.hid hlc
  have HMD := Lib.hid hmd
  clear hk hn hs ht hcm hdm hlc hmd
  go_enter Tryd.func16, Tryd.ntmps16
  go_upto_region 1 with (fail)
  obtain ⟨hbe, h1, h2⟩ := made2 w (aRow key) (aRow nn) 23 24
  generalize (w.alloc (.cells (aRow key) 23)).alloc (.cells (aRow nn) 24) = W at *
  obtain ⟨ka, hka⟩ : ∃ a, a = w.heap.size := ⟨_, rfl⟩
  obtain ⟨na, hna⟩ : ∃ a, a = w.heap.size + 1 := ⟨_, rfl⟩
  rw [← hka] at h1
  rw [← hna] at h2
  rw [← hna, ← hka]
  have HBE := Lib.hid hbe
  have HKA := Lib.hid h1
  have HNA := Lib.hid h2
  clear hka hna hbe h1 h2
  go_cut [9] (fun v wx => ∃ b g, v = .pointer (some ⟨b, 0, none⟩) ∧ w.heap.size ≤ b ∧ w.heap.size ≤ g ∧ Hid (Wh wx b 85 (sRow g nn)) ∧ Hid (Wh wx g 107 (aRow (ksL key).flatten)) ∧ Hid (Below w.heap.size w wx))
  case first =>
    go_wp2_with fail
    have hW0 : Below w.heap.size w W.drew := HBE.out.drew
    have hKA : Wh W.drew ka 23 (aRow key) := HKA.out
    have hNA : Wh W.drew na 24 (aRow nn) := HNA.out
    refine wp_region_held_drew (S := fun w' => SinceM W.drew w') (by kernel_rfl) (SinceM.self _) (fun _ => ?_)
    generalize W.drew = w0 at *
    refine wpAnyH_take (i := 0) (v := .agg (aRow key)) (List.getElem?_toArray.trans rfl) (by kernel_rfl) (by kernel_rfl) (by kernel_rfl) (fun _ _ _ h => h) (yields_blk (by rfl) (.tmp 4) rfl ka 0 rfl key HKL.out (fun w' hS => (SinceM.wh hS hKA).range)) (SinceM.self _) ?_
    refine act_normM (by simp only [Act.put, List.setIfInBounds_toArray, List.set_cons_zero, List.set_cons_succ]; rfl) ?_
    refine wpAnyH_take (i := 2) (v := .agg (aRow nn)) (List.getElem?_toArray.trans rfl) (by kernel_rfl) (by kernel_rfl) (by kernel_rfl) (fun _ _ _ h => h) (yieldsIf_load_mid (by rfl) 24 (.tmp 5) rfl na 0 rfl (nn.map cell8) _ (fun w' hS => Wh.range (SinceM.wh hS hNA)) Tryd.underlying24 rfl (by rw [List.length_map, HNL.out]; exact info_n12)) (SinceM.self _) ?_
    refine act_normM (by simp only [Act.put, List.setIfInBounds_toArray, List.set_cons_zero, List.set_cons_succ]; rfl) ?_
    refine wpAnyH_ready (rs := [1, 4]) (by kernel_rfl) (by simp) (AllReadyH.cons (List.getElem?_toArray.trans rfl) (fun K' hK => ?_) (AllReadyH.cons (List.getElem?_toArray.trans rfl) (fun K' hK => ?_) AllReadyH.nil))
    · refine wanted_goM rfl ?_
      go_simp
      refine (new_any key w0 HKL.out).mono ?_
      rintro e w3 ⟨g, rfl, hge, hgw, hbw3⟩
      have hS3 : SinceM w0 w3 := hbw3
      have hg0 : w0.heap.size ≤ g := hge
      have hgl := hgw.lt
      refine hK.out _ _ hS3 (fun _ => ?_)
      clear hK K'
      refine wpAnyH_take (i := 3) (v := .agg (sRow g nn)) (List.getElem?_toArray.trans rfl) (by kernel_rfl) (by kernel_rfl) (by kernel_rfl) (fun _ _ _ h => h) (yields_built2M (by rfl) 85 0 1 (.tmp 13) (.tmp 14) rfl _ _ rfl rfl (sRow g nn) (built_stream g HNL.out)) hS3 ?_
      refine act_normM (by simp only [Act.put, List.setIfInBounds_toArray, List.set_cons_zero, List.set_cons_succ]; rfl) ?_
      refine wpAnyH_ready (rs := [4]) (by kernel_rfl) (by simp) (AllReadyH.cons (List.getElem?_toArray.trans rfl) (fun K' hK => ?_) AllReadyH.nil)
      refine wanted_goM rfl ?_
      go_simp
      rw [zeros13]
      obtain ⟨b, hbb⟩ : ∃ b, b = w3.heap.size := ⟨_, rfl⟩
      have hzw4 : Wh (w3.alloc (.cells z13.toArray 85)) b 85 z13.toArray := by rw [hbb]; exact Wh.new _ _ _
      have hnw4 : SinceM w3 (w3.alloc (.cells z13.toArray 85)) := (Below.refl _ _).alloc (Nat.le_refl _) _
      rw [← hbb]
      generalize w3.alloc (.cells z13.toArray 85) = w4 at *
      have hS4 := SinceM.trans hS3 hnw4
      have hb0 : w0.heap.size ≤ b := by rw [hbb]; exact hS3.size
      have hgb : g < b := by rw [hbb]; exact hgl
      have hgE := SinceM.wh hnw4 hgw
      clear hbb
      refine hK.out _ _ hS4 (fun _ => ?_)
      clear hK K'
      obtain ⟨hs1, hs2⟩ := Wh.allL (ds := sL g nn) hzw4 (by simp [sL, z13, HNL.out])
      have hSE : SinceM w0 (w4.setCells b 0 (sL g nn)) := SinceM.put hS4 hs2 hb0
      refine wpAnyH_ready (rs := [5]) (by kernel_rfl) (by simp) (AllReadyH.cons (List.getElem?_toArray.trans rfl) (fun K' hK => ?_) AllReadyH.nil)
      refine wanted_goM rfl ?_
      refine wp_store_mid 85 (.tmp 9) (.tmp 15) rfl b 0 (sRow g nn) rfl rfl (by rw [sRow_size HNL.out]; exact Wh.thereL hzw4 0 13 (by simp [z13])) (info_sRow HNL.out) (sRow_one _ _) ?_
      rw [show (sRow g nn).toList = sL g nn from rfl]
      refine hK.out _ _ hSE (fun _ => ?_)
      clear hK K'
      refine wpAnyH_done (by kernel_rfl) ?_ _
      go_wp2_with fail
      go_meet
      exact ⟨b, g, rfl, Nat.le_trans hW0.size hb0, Nat.le_trans hW0.size hg0, Lib.hid hs1, Lib.hid (hgE.grown hs2 (by intro e; have := Option.some.inj e; omega)), Lib.hid (hW0.trans (hSE.mono hW0.size))⟩
    · refine wanted_goM rfl ?_
      go_simp
      rw [zeros13]
      obtain ⟨b, hbb⟩ : ∃ b, b = w0.heap.size := ⟨_, rfl⟩
      have hzw3 : Wh (w0.alloc (.cells z13.toArray 85)) b 85 z13.toArray := by rw [hbb]; exact Wh.new _ _ _
      have hnw3 : SinceM w0 (w0.alloc (.cells z13.toArray 85)) := (Below.refl _ _).alloc (Nat.le_refl _) _
      rw [← hbb]
      generalize w0.alloc (.cells z13.toArray 85) = w3 at *
      have hS3 : SinceM w0 w3 := hnw3
      have hb0 : w0.heap.size ≤ b := by rw [hbb]; exact Nat.le_refl _
      have hbl := hzw3.lt
      clear hbb
      refine hK.out _ _ hS3 (fun _ => ?_)
      clear hK K'
      refine wpAnyH_ready (rs := [1]) (by kernel_rfl) (by simp) (AllReadyH.cons (List.getElem?_toArray.trans rfl) (fun K' hK => ?_) AllReadyH.nil)
      refine wanted_goM rfl ?_
      go_simp
      refine (new_any key w3 HKL.out).mono ?_
      rintro e w4 ⟨g, rfl, hge, hgw, hbw4⟩
      have hS4 : SinceM w0 w4 := SinceM.trans hS3 hbw4
      have hg0 : w0.heap.size ≤ g := Nat.le_trans hS3.size hge
      have hgb : b < g := Nat.lt_of_lt_of_le hbl hge
      have hz4 := SinceM.wh hbw4 hzw3
      have hgE := hgw
      refine hK.out _ _ hS4 (fun _ => ?_)
      clear hK K'
      refine wpAnyH_take (i := 3) (v := .agg (sRow g nn)) (List.getElem?_toArray.trans rfl) (by kernel_rfl) (by kernel_rfl) (by kernel_rfl) (fun _ _ _ h => h) (yields_built2M (by rfl) 85 0 1 (.tmp 13) (.tmp 14) rfl _ _ rfl rfl (sRow g nn) (built_stream g HNL.out)) hS4 ?_
      refine act_normM (by simp only [Act.put, List.setIfInBounds_toArray, List.set_cons_zero, List.set_cons_succ]; rfl) ?_
      obtain ⟨hs1, hs2⟩ := Wh.allL (ds := sL g nn) hz4 (by simp [sL, z13, HNL.out])
      have hSE : SinceM w0 (w4.setCells b 0 (sL g nn)) := SinceM.put hS4 hs2 hb0
      refine wpAnyH_ready (rs := [5]) (by kernel_rfl) (by simp) (AllReadyH.cons (List.getElem?_toArray.trans rfl) (fun K' hK => ?_) AllReadyH.nil)
      refine wanted_goM rfl ?_
      refine wp_store_mid 85 (.tmp 9) (.tmp 15) rfl b 0 (sRow g nn) rfl rfl (by rw [sRow_size HNL.out]; exact Wh.thereL hz4 0 13 (by simp [z13])) (info_sRow HNL.out) (sRow_one _ _) ?_
      rw [show (sRow g nn).toList = sL g nn from rfl]
      refine hK.out _ _ hSE (fun _ => ?_)
      clear hK K'
      refine wpAnyH_done (by kernel_rfl) ?_ _
      go_wp2_with fail
      go_meet
      exact ⟨b, g, rfl, Nat.le_trans hW0.size hb0, Nat.le_trans hW0.size hg0, Lib.hid hs1, Lib.hid (hgE.grown hs2 (by intro e; have := Option.some.inj e; omega)), Lib.hid (hW0.trans (hSE.mono hW0.size))⟩
  case rest =>
    obtain ⟨b, g, rfl, hwb, hwg, HSB, HGC, HB⟩ := hcut
    clear HBE HKA HNA
    have w16 : IntKind.i64.wrap ((m.length : Int) + 16) = (m.length : Int) + 16 := IntWalk.i64_in _ (by omega)
    have HW16 := Lib.hid w16
    clear w16
    go_wp2_with fail
    have hB0 : Below w.heap.size w wc.drew := HB.out.drew
    have hSB0 : Wh wc.drew b 85 (sRow g nn) := HSB.out
    have hGC0 : Wh wc.drew g 107 (aRow (ksL key).flatten) := HGC.out
    refine wp_region_held_drew (S := fun w' => SinceM wc.drew w') (by kernel_rfl) (SinceM.self _) (fun _ => ?_)
    generalize wc.drew = w0 at *
    refine wpAnyH_take (i := 0) (v := .agg (sRow g nn)) (List.getElem?_toArray.trans rfl) (by kernel_rfl) (by kernel_rfl) (by kernel_rfl) (fun _ _ _ h => h) (yieldsIf_load_mid (by rfl) 85 (.tmp 9) rfl b 0 rfl (sL g nn) _ (fun w' hS => Wh.whole (SinceM.wh hS hSB0)) Tryd.underlying85 rfl (info_sL HNL.out)) (SinceM.self _) ?_
    refine act_normM (by simp only [Act.put, List.setIfInBounds_toArray, List.set_cons_zero, List.set_cons_succ]; rfl) ?_
    refine wpAnyH_take (i := 1) (v := .slice B m.length d) (List.getElem?_toArray.trans rfl) (by kernel_rfl) (by kernel_rfl) (by kernel_rfl) (fun _ _ _ h => h) (.inl ⟨rfl, fun w' hS => rfl⟩) (SinceM.self _) ?_
    refine act_normM (by simp only [Act.put, List.setIfInBounds_toArray, List.set_cons_zero, List.set_cons_succ]; rfl) ?_
    refine wpAnyH_take (i := 2) (v := .int .i64 (m.length : Int)) (List.getElem?_toArray.trans rfl) (by kernel_rfl) (by kernel_rfl) (by kernel_rfl) (fun _ _ _ h => h) (.inl ⟨rfl, fun w' hS => by simp [go_sem]⟩) (SinceM.self _) ?_
    refine act_normM (by simp only [Act.put, List.setIfInBounds_toArray, List.set_cons_zero, List.set_cons_succ]; rfl) ?_
    refine wpAnyH_take (i := 3) (v := .int .i64 ((m.length : Int) + 16)) (List.getElem?_toArray.trans rfl) (by kernel_rfl) (by kernel_rfl) (by kernel_rfl) (fun _ _ _ h => h) (.inl ⟨rfl, fun w' hS => by simp [go_sem, HW16.out]⟩) (SinceM.self _) ?_
    refine act_normM (by simp only [Act.put, List.setIfInBounds_toArray, List.set_cons_zero, List.set_cons_succ]; rfl) ?_
    refine wpAnyH_take (i := 5) (v := .slice B m.length d) (List.getElem?_toArray.trans rfl) (by kernel_rfl) (by kernel_rfl) (by kernel_rfl) (fun _ _ _ h => h) (.inl ⟨rfl, fun w' hS => rfl⟩) (SinceM.self _) ?_
    refine act_normM (by simp only [Act.put, List.setIfInBounds_toArray, List.set_cons_zero, List.set_cons_succ]; rfl) ?_
    refine wpAnyH_ready (rs := [4]) (by kernel_rfl) (by simp) (AllReadyH.cons (List.getElem?_toArray.trans rfl) (fun K' hK => ?_) AllReadyH.nil)
    refine wanted_goM rfl ?_
    refine wp_make_mnM (.const (.int .i64 0)) (.tmp 19) 28 rfl 5 i0 _ Tryd.underlying28 hi0 hz0 hz1 rfl .i64 .i64 0 ((m.length : Int) + 16) 0 (m.length + 16) rfl rfl rfl (by omega) (Nat.zero_le _) (by rw [hz2]; omega) (by omega) ?_
    obtain ⟨bs, hbs⟩ : ∃ bs, bs = w0.heap.size := ⟨_, rfl⟩
    have hal : Below w0.heap.size w0 (w0.alloc (.cells (List.replicate (m.length + 16) (Value.int .u8 0)).toArray 5)) := (Below.refl _ _).alloc (Nat.le_refl _) _
    have hown : (w0.alloc (.cells (List.replicate (m.length + 16) (Value.int .u8 0)).toArray 5)).ownsRow bs 5 1 (.slice (some ⟨bs, 0, none⟩) 0 (m.length + 16)) 0 [] := by
      rw [hbs]
      exact own_of_wh (Wh.new w0 5 _) _ 0 (m.length + 16) (Nat.le_refl _) (by simp) (Nat.zero_le _) (by unfold maxLen; omega)
    have hbsz : bs ≤ (w0.alloc (.cells (List.replicate (m.length + 16) (Value.int .u8 0)).toArray 5)).heap.size := by rw [hbs]; simp
    have hwbs : w.heap.size ≤ bs := by rw [hbs]; exact hB0.size
    have hgbs : g < bs := by rw [hbs]; exact hGC0.lt
    rw [← hbs]
    rw [← hbs] at hal
    generalize w0.alloc (.cells (List.replicate (m.length + 16) (Value.int .u8 0)).toArray 5) = w3 at *
    have hS3 : SinceM w0 w3 := by rw [hbs] at hal; exact hal
    have hSL3 : Sl w3 bs B m := (HT.out.below (hB0.trans (hal.mono hwbs))).keep hwbs (fun _ _ => rfl)
    have hGC3 := SinceM.wh hS3 hGC0
    have HBS := Lib.hid hbs
    clear hbs
    refine hK.out _ _ hS3 (fun _ => ?_)
    clear hK K'
    refine wpAnyH_ready (rs := [6]) (by kernel_rfl) (by simp) (AllReadyH.cons (List.getElem?_toArray.trans rfl) (fun K' hK => ?_) AllReadyH.nil)
    refine wanted_goM rfl ?_
    go_simp
    have hturn := gturn_any g (ksL key) nn m B d bs _ w3 (ksL_b HKL.out) hGC3 hgbs HNL.out hSL3 HMD.out HDM.out hm hbsz hown
    skip
    refine hturn.mono ?_
    clear hturn
    rintro e w5 ⟨A5, c5, rfl, h51, h52, ho5, hb5⟩
    have hS5 : SinceM w0 w5 := by
      have h := HBS.out
      have hx := hal.trans hb5
      rw [h] at hx
      exact hx
    refine hK.out _ _ hS5 (fun _ => ?_)
    clear hK K'
    refine wpAnyH_take (i := 7) (v := .slice A5 m.length c5) (List.getElem?_toArray.trans rfl) (by kernel_rfl) (by kernel_rfl) (by kernel_rfl) (fun _ _ _ h => h) (.inl ⟨rfl, fun w' hS => rfl⟩) hS5 ?_
    refine act_normM (by simp only [Act.put, List.setIfInBounds_toArray, List.set_cons_zero, List.set_cons_succ]; rfl) ?_
    refine wpAnyH_done (by kernel_rfl) ?_ _
    have hB5 := hB0.trans (hS5.mono hB0.size)
    have HB5 := Lib.hid hB5
    have HO5 := Lib.hid (own_base ho5 hwbs)
    have HSB5 := Lib.hid (SinceM.wh hS5 hSB0)
    have HGC5 := Lib.hid (SinceM.wh hS5 hGC0)
    have H51 := Lib.hid h51
    have H52 := Lib.hid h52
    clear hB0 hSB0 hGC0 hal hown hbsz hwbs hgbs hS3 hSL3 hGC3 HBS h51 h52 ho5 hb5 hS5 hB5 HSB HGC HB
    obtain ⟨x, hx⟩ : ∃ x, x = tuL (ksL key) nn m := ⟨_, rfl⟩
    have HXL : Deep (x.length = m.length) := ⟨by rw [hx]; exact tu_len _ _ _⟩
    rw [← hx] at HO5
    have HX := Deep.mk hx
    clear hx
    go_wp2_with (first
      | (refine wpList_load_row rfl 85 (.tmp 9) rfl b rfl _ (sRow g nn) _ _ HSB5.out Tryd.underlying85 rfl (info_sRow HNL.out) ?_))
    have ho5 := HO5.out
    rw [← HXL.out] at ho5
    have htag := tag_any g (ksL key) nn l x A A5 c c5 w5 (ksL_b HKL.out) HGC5.out HNL.out ((HS.out.below HB5.out).keep HB5.out.size (fun _ _ => rfl)) HLC.out HCM.out hl (Sv.of_own ho5) (by rw [HXL.out]; exact H51.out) H52.out (by rw [HXL.out]; exact hm)
    obtain ⟨T, hT⟩ : ∃ T, T = tgL (ksL key) nn l x := ⟨_, rfl⟩
    rw [← hT] at htag
    have HTL : Deep (T.length = 16) := ⟨by rw [hT]; exact tg_len _ _ _ _⟩
    have HTT : Deep (x ++ T = sealK key nn l m) := ⟨by rw [hT, HX.out]; rfl⟩
    rw [HXL.out] at htag
    clear ho5 hT
    refine htag.mono ?_
    clear htag
    rintro e w6 ⟨rfl, hb6⟩
    have HB6 := Lib.hid (HB5.out.trans (hb6.mono HB5.out.size))
    have HO6 := Lib.hid (own_below HO5.out hb6)
    clear hb6 HB5 HO5 HSB5 HGC5
    go_upto_region 4 with (first
      | (refine wpList_store_row rfl 23 (.tmp 11) (.tmp 26) rfl w6.heap.size (aRow T) rfl rfl _ _ (heap_alloc_new w6 _) (info_aRow HTL.out) (by rw [aRow_size, HTL.out]; rfl) (aRow_one _) ?_; rw [World.setRow_alloc_new]))
    obtain ⟨n, hn⟩ : ∃ n, n = w6.heap.size := ⟨_, rfl⟩
    have h7 := Wh.new w6 23 (aRow T)
    have ho7 := HO6.out.alloc (.cells (aRow T) 23)
    have hb7 := HB6.out.alloc HB6.out.size (.cells (aRow T) 23)
    rw [← hn] at h7 ⊢
    have HS7 := Lib.hid (sl_of_whA h7)
    have HB7 := Lib.hid hb7
    have HO7 := Lib.hid ho7
    clear hn h7 ho7 hb7 HB6 HO6
    generalize w6.alloc (.cells (aRow T) 23) = w7 at *
    have HT16 : Hid ((T.map cell8).length = 16) := Lib.hid (by rw [List.length_map, HTL.out])
    have HBZ := Lib.hid HB7.out.size
    go_wp2_with (first
      | (at_builtin; refine wpList_append_sv _ rfl (.tmp 27) (.tmp 28) _ rfl w.heap.size 5 i0 _ 1 Tryd.underlying28 hi0 hz0 hz1 hz2 rfl (.slice A5 m.length c5) m.length (x.map cell8) rfl HO7.out _ _ 16 16 (T.map cell8) rfl HS7.out HT16.out (cell8_one T) (by unfold maxLen; omega) (by omega) HBZ.out ?_; intro v8 w8 ho8 hg8 _; have HO8 := Lib.hid ho8; have HB8 := Lib.hid (HB7.out.grown hg8 HBZ.out (fun q hq => (HO7.out.lt q hq).1)); clear ho8 hg8))
    obtain ⟨A8, c8, rfl, h81, h82⟩ := own_form HO8.out
    go_ret
    have ho := HO8.out
    rw [← List.map_append, HTT.out] at ho
    have hle : (sealK key nn l m).length = m.length + 16 := sealK_len _ _ _ _
    refine ⟨A8, c8, by rw [hle]; rfl, by rw [hle]; exact h81, h82, by rw [hle]; exact ho, HB8.out⟩
end

section
open Go.RowKit
set_option linter.unusedVariables false

theorem may_facts {sp n1 n2 n3 : Nat} {ph : Bool} {pn pnb : Int} (h : mayB sp n1 n2 n3 ph pn pnb = true) :
    n1 ≤ 20 ∧ n2 ≤ 20 ∧ 1 ≤ pnb ∧ pnb ≤ 4 ∧ pn ≤ 4611686018427387903 ∧ (sp = 0 ∨ sp = 1 ∨ sp = 2) ∧ (sp = 2 → n2 = 0 ∧ n3 = 0) ∧ (sp = 1 → n3 = 0) ∧ (sp ≠ 2 → ph = false) := by
  unfold mayB at h
  split at h
  · rename_i h0
    obtain ⟨h1, h2, h3, h4, h5⟩ := h0
    split at h
    · rename_i e
      subst e
      exact ⟨h1, h2, h3, h4, h5, .inl rfl, by simp, by simp, fun _ => by simpa using h⟩
    · split at h
      · rename_i e
        subst e
        simp only [Bool.and_eq_true, decide_eq_true_eq, Bool.not_eq_true'] at h
        exact ⟨h1, h2, h3, h4, h5, .inr (.inl rfl), by simp, fun _ => h.2, fun _ => h.1⟩
      · split at h
        · rename_i e
          subst e
          simp only [Bool.and_eq_true, decide_eq_true_eq] at h
          exact ⟨h1, h2, h3, h4, h5, .inr (.inr rfl), fun _ => h, by simp, by simp⟩
        · cases h
  · cases h

theorem hput_any (sp : Nat) (dst src tok : List UInt8) (ph : Bool) (pn : Nat) (pnb n : Int) (A1 : Option Addr) (c1 : Nat) (A2 : Option Addr) (c2 : Nat) (A3 : Option Addr) (c3 : Nat) (w : World)
    (h1 : Sl w w.heap.size A1 dst) (h2 : Sl w w.heap.size A2 src) (h3 : Sl w w.heap.size A3 tok) (ht : tok.length ≤ 3000) (hT : Tab w) :
    Calls Tryd.prog 15 #[.agg (headC sp A1 dst.length c1 A2 src.length c2 A3 tok.length c3 ph (pn : Int) pnb), .int .i64 n] w (HPutGave w sp dst src tok ph pn pnb n) := by
  by_cases h : mayB sp dst.length src.length tok.length ph (pn : Int) pnb = true ∧ 0 ≤ n ∧ n ≤ 65536
  · obtain ⟨hm, hn0, hn⟩ := h
    obtain ⟨f1, f2, f3, f4, f5, f6, f7, f8, f9⟩ := may_facts hm
    obtain ⟨N, rfl⟩ : ∃ N : Nat, n = (N : Int) := ⟨n.toNat, by omega⟩
    obtain ⟨k, rfl⟩ : ∃ k : Nat, pnb = (k : Int) := ⟨pnb.toNat, by omega⟩
    refine (hput_ok sp k N pn dst src tok ph A1 c1 A2 c2 A3 c3 w hm (by omega) h1 h2 h3 ht hT f6 (by omega) f1 f2).mono fun e w' hg => ⟨fun _ => hg, fun hno => absurd ⟨hm, hn0, hn⟩ hno⟩
  · exact (hput_bad sp dst src tok ph pn pnb n A1 c1 A2 c2 A3 c3 w h).mono fun e w' hg => ⟨fun hy => absurd hy h, fun _ => hg⟩
end
end Go.Proofs.YtbnnjkjmadnjkaaDoor
