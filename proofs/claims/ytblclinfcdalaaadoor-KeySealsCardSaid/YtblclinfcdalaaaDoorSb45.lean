/-
  hostlerref09.Key.Tag: the document's own tag. Printed by tools/gen_gcrtag.py.
  hostlerref09.Key.Seal: the document's own sealing. Printed by tools/gen_gcrseal.py.
-/
import Derived.Test.YtblclinfcdalaaaDoorSb21
import Derived.Test.YtblclinfcdalaaaDoorSb44
import Derived.Test.YtblclinfcdalaaaDoorSb33
namespace Go.Proofs.YtblclinfcdalaaaDoor
section
open Go.RowKit
set_option linter.unusedVariables false

theorem al_len (l m : List UInt8) : (alL l m).length = (whL l).length + (whL m).length + 8 + 8 := by
  rw [alL, List.length_append, List.length_append, List.length_append, e8_len, e8_len]

set_option maxRecDepth 100000 in
set_option maxHeartbeats 4000000 in
theorem rtag_any (key nn l m : List UInt8) (Ab Aw A B E : Option Addr) (cb cw c d f D n p : Nat) (w : World) (hD : D ≤ w.heap.size) (hk : key.length = 16) (hK : KeyIs w D Ab Aw key) (hl : nn.length = 12) (hs : Sl w D A nn)
    (ht : Sl w D B l) (hln : l.length = n) (hn : n ≤ 1048576) (hu : Sl w D E m) (hlp : m.length = p) (hp : p ≤ 1048576) :
    Calls Tryd.prog 78 #[.agg (kRow Ab Aw cb cw), .slice A 12 c, .slice B n d, .slice E p f] w (GaveN w 16 (tgL (ksL key) nn l m)) := by
  obtain ⟨i0, hi0, hz0, hz1, hz2⟩ := info_parts info8A
  obtain ⟨T, hT⟩ : ∃ T, T = tgL (ksL key) nn l m := ⟨_, rfl⟩
  obtain ⟨S, hS⟩ : ∃ S, S = stG (ksL key) nn 1 := ⟨_, rfl⟩
  obtain ⟨Y, hY⟩ : ∃ Y, Y = hashL (seL (ksL key) (List.replicate 16 0)) (alL l m) := ⟨_, rfl⟩
  obtain ⟨Z, hZ⟩ : ∃ Z : List UInt8, Z = List.replicate 16 0 := ⟨_, rfl⟩
  have hTY : T = xoG Y S := by rw [hT, hY, hS]; exact tag_ref (ksL key) nn l m (by omega) (by omega)
  have hTl : T.length = 16 := by rw [hT]; exact tg_len _ _ _ _
  have hSl : S.length = 16 := by rw [hS]; exact st_len _ _ _
  have hYl : Y.length = 16 := by rw [hY]; exact hsN_len (seL_len _ _) _ _
  rw [← hZ] at hY
  have HT0 := Deep.mk hT
  have HTY := Deep.mk hTY
  have HTL := Deep.mk hTl
  have HSL := Deep.mk hSl
  have HYL := Deep.mk hYl
  have HS0 := Deep.mk hS
  have HY0 := Deep.mk hY
  have HZR := Deep.mk hZ
  obtain ⟨a, ha⟩ : ∃ a, a = n + (16 - n % 16) % 16 := ⟨_, rfl⟩
  obtain ⟨b, hb⟩ : ∃ b, b = p + (16 - p % 16) % 16 := ⟨_, rfl⟩
  have hwa : (whL l).length = a := by rw [wh_len, hln, ha]
  have hwb : (whL m).length = b := by rw [wh_len, hlp, hb]
  have ha2 : a ≤ 1048592 := by omega
  have hb2 : b ≤ 1048592 := by omega
  obtain ⟨q1, hq1⟩ : ∃ q, q = a + b := ⟨_, rfl⟩
  obtain ⟨q2, hq2⟩ : ∃ q, q = q1 + 8 := ⟨_, rfl⟩
  obtain ⟨q3, hq3⟩ : ∃ q, q = q2 + 8 := ⟨_, rfl⟩
  have HAL : Deep ((alL l m).length = q3) := ⟨by rw [al_len, hwa, hwb]; omega⟩
  have HA := Deep.mk ha
  have HB := Deep.mk hb
  have HQ1 := Deep.mk hq1
  have HQ2 := Deep.mk hq2
  have HQ3 := Deep.mk hq3
  have HWB := Deep.mk hwb
  have HKL := Deep.mk hk
  have HNL := Deep.mk hl
  have HLN := Deep.mk hln
  have HLP := Deep.mk hlp
  have HK := Lib.hid hK
  have HS := Lib.hid hs
  have HT := Lib.hid ht
  have HU := Lib.hid hu
  have h1 := Wh.new w 73 (kRow Ab Aw cb cw)
  have hbe : Below w.heap.size w (w.alloc (.cells (kRow Ab Aw cb cw) 73)) := (Below.refl _ _).alloc (Nat.le_refl _) _
  clear hk hK hl hs ht hu hT hln hlp hS hY hZ hTY hTl hSl hYl ha hb hq1 hq2 hq3 hwa hwb
  rw [← HT0.out]
  go_enter Tryd.func78, Tryd.ntmps78
  go_upto_region 1 with (fail)
  obtain ⟨kb, hkb⟩ : ∃ b, b = w.heap.size := ⟨_, rfl⟩
  rw [← hkb] at h1 ⊢
  generalize w.alloc (.cells (kRow Ab Aw cb cw) 73) = w1 at *
  have H1 := Lib.hid h1
  have HB1 := Lib.hid hbe
  clear hkb h1 hbe
  go_wp2_with fail
  refine (rwhole_any l B d w1.heap.size n w1 (Nat.le_refl _) HLN.out (by omega) ((HT.out.below (HB1.out.mono hD)).keep (Nat.le_trans hD HB1.out.size) (fun _ _ => rfl))).mono ?_
  rw [← HA.out]
  rintro e w2 ⟨A2, c2, rfl, h21, h22, ho2, hb2'⟩
  have HO2 := Lib.hid ho2
  have HB2 := Lib.hid hb2'
  have HD2 := Lib.hid (HB1.out.trans (hb2'.mono HB1.out.size))
  clear ho2 hb2'
  go_wp2_with fail
  refine (rwhole_any m E f w2.heap.size p w2 (Nat.le_refl _) HLP.out (by omega) ((HU.out.below (HD2.out.mono hD)).keep (Nat.le_trans hD HD2.out.size) (fun _ _ => rfl))).mono ?_
  rw [← HB.out]
  rintro e w3 ⟨A3, c3, rfl, h31, h32, ho3, hb3⟩
  have ho23 := own_below HO2.out hb3
  have hn3 := Sv.of_own ho3
  have HB3 := Lib.hid (HB2.out.trans (hb3.mono HB2.out.size))
  have hsz3 := HB3.out.size
  have hwbl : ((whL m).map cell8).length = b := by rw [List.length_map, HWB.out]
  clear HO2 ho3 hb3 HB2 HD2
  go_upto_region 2 with (first
    | (at_builtin; refine wpList_append_sv _ rfl (.tmp 14) (.tmp 16) _ rfl w1.heap.size 5 i0 _ 1 Tryd.underlying23 hi0 hz0 hz1 hz2 rfl (.slice A2 a c2) a _ rfl ho23 _ A3 b c3 _ rfl hn3 hwbl (cell8_one _) (by unfold maxLen; omega) (by omega) hsz3 ?_; intro v4 w4 ho4 hg4 _; rw [← HQ1.out, ← List.map_append] at ho4; have HO4 := Lib.hid ho4; have HB4 := Lib.hid (HB3.out.grown hg4 hsz3 (fun q hq => (ho23.lt q hq).1)); clear ho4 hg4))
  clear ho23 hn3 HB3 hsz3 hwbl h21 h22 h31 h32
  obtain ⟨A4, c4, rfl, h41, h42⟩ := own_form HO4.out
  have H42 := Lib.hid h42
  clear h41 h42
  go_wp2_with fail
  refine (reight_any n w4 (by omega)).mono ?_
  rintro e w5 ⟨A5, c5, rfl, h51, h52, ho5, hb5⟩
  have ho45 := own_below HO4.out hb5
  have hn5 := Sv.of_own ho5
  have HB5 := Lib.hid (HB4.out.trans (hb5.mono HB4.out.size))
  have hsz5 := HB5.out.size
  have he8l : ((e8L (8 * n)).map cell8).length = 8 := by rw [List.length_map, e8_len]
  have hq1b : q1 ≤ 2097184 := by have := HQ1.out; omega
  clear HO4 ho5 hb5 HB4
  go_wp2_with (first
    | (at_builtin; refine wpList_append_sv _ rfl (.tmp 18) (.tmp 21) _ rfl w1.heap.size 5 i0 _ 1 Tryd.underlying23 hi0 hz0 hz1 hz2 rfl (.slice A4 q1 c4) q1 _ rfl ho45 _ A5 8 c5 _ rfl hn5 he8l (cell8_one _) (by unfold maxLen; omega) (by omega) hsz5 ?_; intro v6 w6 ho6 hg6 _; rw [← HQ2.out, ← List.map_append] at ho6; have HO6 := Lib.hid ho6; have HB6 := Lib.hid (HB5.out.grown hg6 hsz5 (fun q hq => (ho45.lt q hq).1)); clear ho6 hg6))
  clear ho45 hn5 HB5 hsz5 he8l h51 h52
  obtain ⟨A6, c6, rfl, h61, h62⟩ := own_form HO6.out
  refine (reight_any p w6 (by omega)).mono ?_
  rintro e w7 ⟨A7, c7, rfl, h71, h72, ho7, hb7⟩
  have ho67 := own_below HO6.out hb7
  have hn7 := Sv.of_own ho7
  have HB7 := Lib.hid (HB6.out.trans (hb7.mono HB6.out.size))
  have hsz7 := HB7.out.size
  have he8l : ((e8L (8 * p)).map cell8).length = 8 := by rw [List.length_map, e8_len]
  have hq2b : q2 ≤ 2097192 := by have := HQ2.out; omega
  clear HO6 ho7 hb7 HB6
  go_upto_region 3 with (first
    | (at_builtin; refine wpList_append_sv _ rfl (.tmp 22) (.tmp 25) _ rfl w1.heap.size 5 i0 _ 1 Tryd.underlying23 hi0 hz0 hz1 hz2 rfl (.slice A6 q2 c6) q2 _ rfl ho67 _ A7 8 c7 _ rfl hn7 he8l (cell8_one _) (by unfold maxLen; omega) (by omega) hsz7 ?_; intro v8 w8 ho8 hg8 _; rw [← HQ3.out, ← List.map_append] at ho8; have HO8 := Lib.hid ho8; have HB8 := Lib.hid (HB7.out.grown hg8 hsz7 (fun q hq => (ho67.lt q hq).1)); clear ho8 hg8))
  clear ho67 hn7 HB7 hsz7 he8l h61 h62 h71 h72
  obtain ⟨A8, c8, rfl, h81, h82⟩ := own_form HO8.out
  have hq3b : q3 ≤ 2097200 := by have := HQ3.out; omega
  have HSA : Hid (Sl w8 w8.heap.size A8 (alL l m)) := by
    have h := Sv.of_own HO8.out
    rw [← HLN.out, ← HLP.out] at h
    exact Lib.hid h
  have HK8 : Hid (Wh w8 kb 73 (kRow Ab Aw cb cw)) := Lib.hid (H1.out.below HB8.out H1.out.lt)
  have HF8 := Lib.hid (HB1.out.trans (HB8.out.mono HB1.out.size))
  clear HO8 h81 h82 H1 HB1 HB8
  have hsa : Sl w8.drew w8.drew.heap.size A8 (alL l m) := HSA.out
  have hk8 : Wh w8.drew kb 73 (kRow Ab Aw cb cw) := HK8.out
  have hF8 : Below w.heap.size w w8.drew := HF8.out.drew
  clear HSA HK8 HF8
  refine wp_region_held_drew (S := fun w' => SinceM w8.drew w') (by kernel_rfl) (SinceM.self _) (fun _ => ?_)
  generalize w8.drew = w0 at *
  have HKK := HK.out.below (hF8.mono hD)
  have hD0 := Nat.le_trans hD hF8.size
  refine wpAnyH_take (i := 0) (v := .agg (kRow Ab Aw cb cw)) (List.getElem?_toArray.trans rfl) (by kernel_rfl) (by kernel_rfl) (by kernel_rfl) (fun _ _ _ h => h) (yieldsIf_load_mid (by rfl) 73 (.tmp 4) rfl kb 0 rfl [.slice Ab 256 cb, .slice Aw 176 cw] _ (fun w' hS => Wh.whole (SinceM.wh hS hk8)) Tryd.underlying73 rfl (info_key Ab Aw cb cw)) (SinceM.self _) ?_
  refine act_normM (by simp only [Act.put, List.setIfInBounds_toArray, List.set_cons_zero, List.set_cons_succ]; rfl) ?_
  refine wpAnyH_take (i := 3) (v := .slice A8 q3 c8) (List.getElem?_toArray.trans rfl) (by kernel_rfl) (by kernel_rfl) (by kernel_rfl) (fun _ _ _ h => h) (.inl ⟨rfl, fun w' hS => rfl⟩) (SinceM.self _) ?_
  refine act_normM (by simp only [Act.put, List.setIfInBounds_toArray, List.set_cons_zero, List.set_cons_succ]; rfl) ?_
  refine wpAnyH_ready (rs := [1]) (by kernel_rfl) (by simp) (AllReadyH.cons (List.getElem?_toArray.trans rfl) (fun K' hK => ?_) AllReadyH.nil)
  refine wanted_goM rfl ?_
  refine wp_make_mnM (.const (.int .i64 16)) (.const (.int .i64 16)) 23 rfl 5 i0 _ Tryd.underlying23 hi0 hz0 hz1 rfl .i64 .i64 16 16 16 16 rfl rfl rfl rfl (Nat.le_refl _) (by rw [hz2]; omega) (by omega) ?_
  rw [zrow, ← HZR.out]
  have hS2 : SinceM w0 (w0.alloc (.cells (aRow Z) 5)) := (Below.refl _ _).alloc (Nat.le_refl _) _
  have hz3 := sl_of_whA (Wh.new w0 5 (aRow Z))
  obtain ⟨zb, hzb⟩ : ∃ b, b = w0.heap.size := ⟨_, rfl⟩
  rw [← hzb] at hz3 ⊢
  clear hzb
  generalize w0.alloc (.cells (aRow Z) 5) = w2 at *
  refine hK.out _ _ hS2 (fun _ => ?_)
  clear hK K'
  refine wpAnyH_ready (rs := [2]) (by kernel_rfl) (by simp) (AllReadyH.cons (List.getElem?_toArray.trans rfl) (fun K' hK => ?_) AllReadyH.nil)
  refine wanted_goM rfl ?_
  go_simp
  refine (rblock_any key Z Ab Aw (some ⟨zb, 0, none⟩) cb cw 16 w2.heap.size w2 (Nat.le_refl _) HKL.out ((HKK.below (hS2.mono hD0)).mono (Nat.le_trans hD0 hS2.size)) (by rw [HZR.out]; rfl) hz3).mono ?_
  rintro e w3 ⟨A9, c9, rfl, hs9, hb9⟩
  have hS3 : SinceM w0 w3 := SinceM.trans hS2 hb9
  refine hK.out _ _ hS3 (fun _ => ?_)
  clear hK K'
  refine wpAnyH_ready (rs := [4]) (by kernel_rfl) (by simp) (AllReadyH.cons (List.getElem?_toArray.trans rfl) (fun K' hK => ?_) AllReadyH.nil)
  refine wanted_goM rfl ?_
  go_simp
  have hhash := rhash_any (seL (ksL key) Z) (alL l m) A9 A8 c9 c8 w3.heap.size q3 w3 (Nat.le_refl _) (seL_len _ _) HAL.out (by omega) hs9.sv ((SinceM.sl hS3 hsa (Nat.le_refl _)).keep hS3.size (fun _ _ => rfl))
  rw [← HY0.out] at hhash
  refine hhash.mono ?_
  rintro e w4 ⟨A10, c10, rfl, h101, h102, ho10, hb10⟩
  have hS4 : SinceM w0 w4 := SinceM.trans hS3 hb10
  refine hK.out _ _ hS4 (fun _ => ?_)
  clear hK K'
  refine wpAnyH_take (i := 5) (v := .slice A10 16 c10) (List.getElem?_toArray.trans rfl) (by kernel_rfl) (by kernel_rfl) (by kernel_rfl) (fun _ _ _ h => h) (.inl ⟨rfl, fun w' hS => rfl⟩) hS4 ?_
  refine act_normM (by simp only [Act.put, List.setIfInBounds_toArray, List.set_cons_zero, List.set_cons_succ]; rfl) ?_
  refine wpAnyH_done (by kernel_rfl) ?_ _
  obtain ⟨g, cg, e10, hpg, hgl, hcg1, hcg2⟩ := Pq.of_own (own_base ho10 (Nat.le_trans hF8.size hS3.size)) (by omega)
  simp only [Value.slice.injEq, true_and] at e10
  obtain ⟨rfl, rfl⟩ := e10
  have HP4 := Lib.hid hpg
  have HG := Lib.hid hgl
  have HC1 := Lib.hid hcg1
  have HC2 := Lib.hid hcg2
  have HB4 := Lib.hid (hF8.trans (hS4.mono hF8.size))
  have HK4 := Lib.hid (SinceM.wh hS4 hk8)
  have hstr := rstream_any key nn Ab Aw A cb cw c D 1 w4 (Nat.le_trans hD HB4.out.size) HKL.out (HK.out.below (HB4.out.mono hD)) HNL.out (HS.out.below (HB4.out.mono hD)) (by omega)
  rw [← HS0.out] at hstr
  have HSTR := Lib.hid hstr
  clear hcg1 hcg2 hsa hk8 hF8 HKK hD0 hS2 hz3 hs9 hb9 hS3 ho10 hb10 hS4 hpg hgl hstr h101 h102 hhash
  go_wp2_with (first
    | (refine wpList_load_row rfl 73 (.tmp 4) rfl kb rfl _ (kRow Ab Aw cb cw) _ _ HK4.out Tryd.underlying73 rfl (info_key Ab Aw cb cw) ?_))
  refine HSTR.out.mono ?_
  rintro e w5 ⟨A3, c3, rfl, hs3, hb3⟩
  obtain ⟨b3, o3, rfl, hlo3, hlt3, hc3⟩ := hs3 (by intro e; have := congrArg List.length e; rw [List.length_map, HSL.out] at this; cases this)
  have HP5 : Hid (Pq w5 g c10 5 (jnN Y S 0)) := Lib.hid (HP4.out.since hb3)
  have HB5 := Lib.hid (HB4.out.trans (hb3.mono HB4.out.size))
  have HF5 : Hid (Fr w5 (.slice (some ⟨g, 0, none⟩) 16 c10) b3 o3 S) := Lib.hid ⟨hlt3, by intro e; have h := Option.some.inj e; have h2 := HP4.out.pb.lt; change g = b3 at h; omega, fun k hk => hc3 k _ (by rw [List.getElem?_map, List.getD_eq_getElem?_getD, List.getElem?_eq_getElem hk]; rfl)⟩
  clear hb3 hs3 hlo3 hlt3 hc3 HSTR HP4 HB4 HK4
  go_wp2_with fail
  go_loopw [12] (fun kk wr => ∃ k : Nat, k ≤ 16 ∧ kk = .int .i64 (k : Int) ∧ Hid (Pq wr g c10 5 (jnN Y S k)) ∧ Hid (Below w.heap.size w wr) ∧ Hid (Fr wr (.slice (some ⟨g, 0, none⟩) 16 c10) b3 o3 S)) (fun kk _ => 16 - (intOf kk).toNat)
  case atStart => exact ⟨0, by omega, rfl, HP5, HB5, HF5⟩
  case round =>
    obtain ⟨k, hk, rfl, HP6, HB6, HF6⟩ := hrel
    clear HP5 HB5 HF5
    by_cases hlk : k < 16
    · obtain ⟨u, hu⟩ : ∃ u, u = jnN Y S k := ⟨_, rfl⟩
      have hul : u.length = 16 := by rw [hu, jnN_len, HYL.out]
      rw [← hu] at HP6
      have hcu := HP6.out.pb.cell (j := k) (by omega)
      have hfu := HP6.out.pb.frozen k
      have hcq := HF6.out.2.2 k (by rw [HSL.out]; omega)
      obtain ⟨x, hx⟩ : ∃ x, x = u.getD k 0 := ⟨_, rfl⟩
      obtain ⟨y, hy⟩ : ∃ y, y = S.getD k 0 := ⟨_, rfl⟩
      rw [← hx] at hcu
      rw [← hy] at hcq
      obtain ⟨z, hz⟩ : ∃ z, z = x ^^^ y := ⟨_, rfl⟩
      have HNJ : Deep (u.set k z = jnN Y S (k + 1)) := ⟨by rw [hz, hx, hy, hu]; rfl⟩
      have HZZ := Deep.mk hz
      have hki : (k : Int) < 16 := by omega
      have hput := HP6.out.put k z
      have hgs := grown_trans (grown_below (row := some g) ((Below.refl _ wr).drew)) (grown_set wr.drew g k (.int .u8 (z.toNat : Int)))
      have HPU : Hid (Pq (wr.drew.setCell ⟨g, k, none⟩ (.int .u8 (z.toNat : Int))) g c10 5 (u.set k z)) := Lib.hid hput
      have HGS := Lib.hid hgs
      have HCU : Hid (wr.drew.cell? ⟨g, k, none⟩ = some (.int .u8 (x.toNat : Int))) := Lib.hid hcu
      have HFU : Hid (wr.drew.frozen? ⟨g, k, none⟩ = false) := Lib.hid hfu
      have HCQ : Hid (wr.drew.cell? ⟨b3, o3 + k, none⟩ = some (.int .u8 (y.toNat : Int))) := Lib.hid hcq
      clear hu hul hcu hfu hcq hx hy hz hput hgs
      go_wp2_with fail
      have hcd := HCU.out
      have hfd := HFU.out
      have hcqd := HCQ.out
      refine wp_region_held_drew (S := fun _ => True) (by kernel_rfl) trivial (fun _ => ?_)
      refine wpAnyH_take (i := 0) (v := .slice (some ⟨g, 0, none⟩) 16 c10) (List.getElem?_toArray.trans rfl) (by kernel_rfl) (by kernel_rfl) (by kernel_rfl) (fun _ _ _ h => h) (.inl ⟨rfl, fun w' hS => rfl⟩) trivial ?_
      refine act_normM (by simp only [Act.put, List.setIfInBounds_toArray, List.set_cons_zero, List.set_cons_succ]; rfl) ?_
      refine wpAnyH_take (i := 1) (v := .int .i64 (k : Int)) (List.getElem?_toArray.trans rfl) (by kernel_rfl) (by kernel_rfl) (by kernel_rfl) (fun _ _ _ h => h) (.inl ⟨rfl, fun w' hS => rfl⟩) trivial ?_
      refine act_normM (by simp only [Act.put, List.setIfInBounds_toArray, List.set_cons_zero, List.set_cons_succ]; rfl) ?_
      refine wpAnyH_take (i := 2) (v := .slice (some ⟨g, 0, none⟩) 16 c10) (List.getElem?_toArray.trans rfl) (by kernel_rfl) (by kernel_rfl) (by kernel_rfl) (fun _ _ _ h => h) (.inl ⟨rfl, fun w' hS => rfl⟩) trivial ?_
      refine act_normM (by simp only [Act.put, List.setIfInBounds_toArray, List.set_cons_zero, List.set_cons_succ]; rfl) ?_
      refine wpAnyH_take (i := 3) (v := .int .i64 (k : Int)) (List.getElem?_toArray.trans rfl) (by kernel_rfl) (by kernel_rfl) (by kernel_rfl) (fun _ _ _ h => h) (.inl ⟨rfl, fun w' hS => rfl⟩) trivial ?_
      refine act_normM (by simp only [Act.put, List.setIfInBounds_toArray, List.set_cons_zero, List.set_cons_succ]; rfl) ?_
      refine wpAnyH_take (i := 4) (v := .pointer (some ⟨g, k, none⟩)) (List.getElem?_toArray.trans rfl) (by kernel_rfl) (by kernel_rfl) (by kernel_rfl) (fun _ _ _ h => h) (.inl ⟨rfl, fun w' hS => by simp [go_sem, hki]⟩) trivial ?_
      refine act_normM (by simp only [Act.put, List.setIfInBounds_toArray, List.set_cons_zero, List.set_cons_succ]; rfl) ?_
      refine wpAnyH_take (i := 6) (v := .slice (some ⟨b3, o3, none⟩) 16 c3) (List.getElem?_toArray.trans rfl) (by kernel_rfl) (by kernel_rfl) (by kernel_rfl) (fun _ _ _ h => h) (.inl ⟨rfl, fun w' hS => rfl⟩) trivial ?_
      refine act_normM (by simp only [Act.put, List.setIfInBounds_toArray, List.set_cons_zero, List.set_cons_succ]; rfl) ?_
      refine wpAnyH_take (i := 7) (v := .int .i64 (k : Int)) (List.getElem?_toArray.trans rfl) (by kernel_rfl) (by kernel_rfl) (by kernel_rfl) (fun _ _ _ h => h) (.inl ⟨rfl, fun w' hS => rfl⟩) trivial ?_
      refine act_normM (by simp only [Act.put, List.setIfInBounds_toArray, List.set_cons_zero, List.set_cons_succ]; rfl) ?_
      refine wpAnyH_take (i := 8) (v := .pointer (some ⟨b3, o3 + k, none⟩)) (List.getElem?_toArray.trans rfl) (by kernel_rfl) (by kernel_rfl) (by kernel_rfl) (fun _ _ _ h => h) (.inl ⟨rfl, fun w' hS => by simp [go_sem, hki]⟩) trivial ?_
      refine act_normM (by simp only [Act.put, List.setIfInBounds_toArray, List.set_cons_zero, List.set_cons_succ]; rfl) ?_
      refine wpAnyH_ready (rs := [5, 9]) (by kernel_rfl) (by simp) (AllReadyH.cons (List.getElem?_toArray.trans rfl) (fun K' hK => ?_) (AllReadyH.cons (List.getElem?_toArray.trans rfl) (fun K' hK => ?_) AllReadyH.nil))
      · refine wanted_goM rfl ?_
        go_simp
        refine hK.out _ _ trivial (fun _ => ?_)
        clear hK K'
        refine wpAnyH_ready (rs := [9]) (by kernel_rfl) (by simp) (AllReadyH.cons (List.getElem?_toArray.trans rfl) (fun K' hK => ?_) AllReadyH.nil)
        refine wanted_goM rfl ?_
        go_simp
        refine hK.out _ _ trivial (fun _ => ?_)
        clear hK K'
        refine wpAnyH_take (i := 10) (v := .int .u8 (z.toNat : Int)) (List.getElem?_toArray.trans rfl) (by kernel_rfl) (by kernel_rfl) (by kernel_rfl) (fun _ _ _ h => h) (.inl ⟨rfl, fun w' hS => by rw [HZZ.out, ← b_xor]; simp [go_sem]⟩) trivial ?_
        refine act_normM (by simp only [Act.put, List.setIfInBounds_toArray, List.set_cons_zero, List.set_cons_succ]; rfl) ?_
        refine wpAnyH_take (i := 11) (v := .pointer (some ⟨g, k, none⟩)) (List.getElem?_toArray.trans rfl) (by kernel_rfl) (by kernel_rfl) (by kernel_rfl) (fun _ _ _ h => h) (.inl ⟨rfl, fun w' hS => by simp [go_sem, hki]⟩) trivial ?_
        refine act_normM (by simp only [Act.put, List.setIfInBounds_toArray, List.set_cons_zero, List.set_cons_succ]; rfl) ?_
        refine wpAnyH_ready (rs := [12]) (by kernel_rfl) (by simp) (AllReadyH.cons (List.getElem?_toArray.trans rfl) (fun K' hK => ?_) AllReadyH.nil)
        refine wanted_goM rfl ?_
        go_simp
        refine hK.out _ _ trivial (fun _ => ?_)
        clear hK K'
        refine wpAnyH_done (by kernel_rfl) ?_ _
        clear hcd hfd hcqd hki
        change Exit.inBlock 1 _ _ _ (wr.drew.setCell ⟨g, k, none⟩ (.int .u8 (z.toNat : Int)))
        generalize wr.drew.setCell ⟨g, k, none⟩ (.int .u8 (z.toNat : Int)) = w5 at *
        go_wp2
        refine ⟨⟨k + 1, by omega, by go_num, ?_, Lib.hid (HB6.out.grown HGS.out HB6.out.size (fun q hq => by have := Option.some.inj hq; have := HG.out; omega)), Lib.hid (HF6.out.more HGS.out (Or.inl rfl))⟩, by simp [intOf]; omega⟩
        rw [← HNJ.out]
        exact HPU
      · refine wanted_goM rfl ?_
        go_simp
        refine hK.out _ _ trivial (fun _ => ?_)
        clear hK K'
        refine wpAnyH_ready (rs := [5]) (by kernel_rfl) (by simp) (AllReadyH.cons (List.getElem?_toArray.trans rfl) (fun K' hK => ?_) AllReadyH.nil)
        refine wanted_goM rfl ?_
        go_simp
        refine hK.out _ _ trivial (fun _ => ?_)
        clear hK K'
        refine wpAnyH_take (i := 10) (v := .int .u8 (z.toNat : Int)) (List.getElem?_toArray.trans rfl) (by kernel_rfl) (by kernel_rfl) (by kernel_rfl) (fun _ _ _ h => h) (.inl ⟨rfl, fun w' hS => by rw [HZZ.out, ← b_xor]; simp [go_sem]⟩) trivial ?_
        refine act_normM (by simp only [Act.put, List.setIfInBounds_toArray, List.set_cons_zero, List.set_cons_succ]; rfl) ?_
        refine wpAnyH_take (i := 11) (v := .pointer (some ⟨g, k, none⟩)) (List.getElem?_toArray.trans rfl) (by kernel_rfl) (by kernel_rfl) (by kernel_rfl) (fun _ _ _ h => h) (.inl ⟨rfl, fun w' hS => by simp [go_sem, hki]⟩) trivial ?_
        refine act_normM (by simp only [Act.put, List.setIfInBounds_toArray, List.set_cons_zero, List.set_cons_succ]; rfl) ?_
        refine wpAnyH_ready (rs := [12]) (by kernel_rfl) (by simp) (AllReadyH.cons (List.getElem?_toArray.trans rfl) (fun K' hK => ?_) AllReadyH.nil)
        refine wanted_goM rfl ?_
        go_simp
        refine hK.out _ _ trivial (fun _ => ?_)
        clear hK K'
        refine wpAnyH_done (by kernel_rfl) ?_ _
        clear hcd hfd hcqd hki
        change Exit.inBlock 1 _ _ _ (wr.drew.setCell ⟨g, k, none⟩ (.int .u8 (z.toNat : Int)))
        generalize wr.drew.setCell ⟨g, k, none⟩ (.int .u8 (z.toNat : Int)) = w5 at *
        go_wp2
        refine ⟨⟨k + 1, by omega, by go_num, ?_, Lib.hid (HB6.out.grown HGS.out HB6.out.size (fun q hq => by have := Option.some.inj hq; have := HG.out; omega)), Lib.hid (HF6.out.more HGS.out (Or.inl rfl))⟩, by simp [intOf]; omega⟩
        rw [← HNJ.out]
        exact HPU
    · have hkd : decide ((k : Int) < 16) = false := by rw [decide_eq_false_iff_not]; omega
      have HPT : Hid (Pq wr g c10 5 T) := by
        have h := HP6.out
        rw [show k = Y.length by rw [HYL.out]; omega, jn_all Y S (by rw [HYL.out, HSL.out]), ← HTY.out] at h
        exact Lib.hid h
      clear HP6 HF6 hlk hk
      go_wp2
      go_ret
      exact ⟨_, _, rfl, HC1.out, HC2.out, HPT.out.own HG.out HTL.out HC1.out HC2.out, HB6.out⟩
end

section
open Go.RowKit
set_option linter.unusedVariables false

set_option maxRecDepth 100000 in
set_option maxHeartbeats 4000000 in
theorem rgseal_any (key nn l m : List UInt8) (Ab Aw A B E : Option Addr) (cb cw c d f D n p : Nat) (w : World) (hD : D ≤ w.heap.size) (hk : key.length = 16) (hK : KeyIs w D Ab Aw key) (hl : nn.length = 12) (hs : Sl w D A nn)
    (ht : Sl w D B l) (hln : l.length = n) (hn : n ≤ 1048576) (hu : Sl w D E m) (hlp : m.length = p) (hp : p ≤ 1048576) :
    Calls Tryd.prog 42 #[.agg (kRow Ab Aw cb cw), .slice A 12 c, .slice B n d, .slice E p f] w (GaveN w (p + 16) (sealK key nn l m)) := by
  obtain ⟨i0, hi0, hz0, hz1, hz2⟩ := info_parts info8A
  obtain ⟨T, hT⟩ : ∃ T, T = tuL (ksL key) nn m := ⟨_, rfl⟩
  obtain ⟨G, hG⟩ : ∃ G, G = tgL (ksL key) nn l T := ⟨_, rfl⟩
  have HSE : Deep (T ++ G = sealK key nn l m) := ⟨by rw [hG, hT]; rfl⟩
  have hTl : T.length = p := by rw [hT, tu_len, hlp]
  have hGl : G.length = 16 := by rw [hG]; exact tg_len _ _ _ _
  have HT0 := Deep.mk hT
  have HG0 := Deep.mk hG
  have HTL := Deep.mk hTl
  have HGL := Deep.mk hGl
  have HKL := Deep.mk hk
  have HNL := Deep.mk hl
  have HLN := Deep.mk hln
  have HLP := Deep.mk hlp
  have HK := Lib.hid hK
  have HS := Lib.hid hs
  have HT := Lib.hid ht
  have HU := Lib.hid hu
  have h1 := Wh.new w 73 (kRow Ab Aw cb cw)
  have hbe : Below w.heap.size w (w.alloc (.cells (kRow Ab Aw cb cw) 73)) := (Below.refl _ _).alloc (Nat.le_refl _) _
  clear hk hK hl hs ht hu hT hG hln hlp hTl hGl
  rw [← HSE.out]
  go_enter Tryd.func42, Tryd.ntmps42
  go_upto_region 1 with (fail)
  obtain ⟨kb, hkb⟩ : ∃ b, b = w.heap.size := ⟨_, rfl⟩
  rw [← hkb] at h1 ⊢
  generalize w.alloc (.cells (kRow Ab Aw cb cw) 73) = w1 at *
  have H1 := Lib.hid h1
  have HB1 := Lib.hid hbe
  have hturn := rturn_any key nn m Ab Aw A E cb cw c f D p w1 (Nat.le_trans hD hbe.size) HKL.out (HK.out.below (hbe.mono hD)) HNL.out (HS.out.below (hbe.mono hD)) (HU.out.below (hbe.mono hD)) HLP.out hp
  rw [← HT0.out] at hturn
  have HTURN := Lib.hid hturn
  clear hkb h1 hbe hturn
  go_wp2_with (first
    | (refine wpList_load_row rfl 73 (.tmp 4) rfl kb rfl _ (kRow Ab Aw cb cw) _ _ H1.out Tryd.underlying73 rfl (info_key Ab Aw cb cw) ?_))
  refine HTURN.out.mono ?_
  rintro e w2 ⟨A2, c2, rfl, h21, h22, ho2, hb2⟩
  have HT2 := Lib.hid (Sv.of_own ho2)
  have HB2 := Lib.hid (HB1.out.trans (hb2.mono HB1.out.size))
  have HK2 := Lib.hid (H1.out.below hb2 H1.out.lt)
  clear ho2 hb2 HTURN H1 HB1 h21 h22
  go_upto_region 2 with (fail)
  have ht2 : Sl w2.drew w2.drew.heap.size A2 T := HT2.out
  have hk2 : Wh w2.drew kb 73 (kRow Ab Aw cb cw) := HK2.out
  have hF2 : Below w.heap.size w w2.drew := HB2.out.drew
  clear HT2 HK2 HB2
  refine wp_region_held_drew (S := fun w' => SinceM w2.drew w') (by kernel_rfl) (SinceM.self _) (fun _ => ?_)
  generalize w2.drew = w0 at *
  have hD0 := Nat.le_trans hD hF2.size
  have htl : (T.map cell8).length = p := by rw [List.length_map, HTL.out]
  have hgl : (G.map cell8).length = 16 := by rw [List.length_map, HGL.out]
  refine wpAnyH_take (i := 1) (v := .slice A2 p c2) (List.getElem?_toArray.trans rfl) (by kernel_rfl) (by kernel_rfl) (by kernel_rfl) (fun _ _ _ h => h) (.inl ⟨rfl, fun w' hS => rfl⟩) (SinceM.self _) ?_
  refine act_normM (by simp only [Act.put, List.setIfInBounds_toArray, List.set_cons_zero, List.set_cons_succ]; rfl) ?_
  refine wpAnyH_take (i := 3) (v := .agg (kRow Ab Aw cb cw)) (List.getElem?_toArray.trans rfl) (by kernel_rfl) (by kernel_rfl) (by kernel_rfl) (fun _ _ _ h => h) (yieldsIf_load_mid (by rfl) 73 (.tmp 4) rfl kb 0 rfl [.slice Ab 256 cb, .slice Aw 176 cw] _ (fun w' hS => Wh.whole (SinceM.wh hS hk2)) Tryd.underlying73 rfl (info_key Ab Aw cb cw)) (SinceM.self _) ?_
  refine act_normM (by simp only [Act.put, List.setIfInBounds_toArray, List.set_cons_zero, List.set_cons_succ]; rfl) ?_
  refine wpAnyH_take (i := 4) (v := .slice A 12 c) (List.getElem?_toArray.trans rfl) (by kernel_rfl) (by kernel_rfl) (by kernel_rfl) (fun _ _ _ h => h) (.inl ⟨rfl, fun w' hS => rfl⟩) (SinceM.self _) ?_
  refine act_normM (by simp only [Act.put, List.setIfInBounds_toArray, List.set_cons_zero, List.set_cons_succ]; rfl) ?_
  refine wpAnyH_take (i := 5) (v := .slice B n d) (List.getElem?_toArray.trans rfl) (by kernel_rfl) (by kernel_rfl) (by kernel_rfl) (fun _ _ _ h => h) (.inl ⟨rfl, fun w' hS => rfl⟩) (SinceM.self _) ?_
  refine act_normM (by simp only [Act.put, List.setIfInBounds_toArray, List.set_cons_zero, List.set_cons_succ]; rfl) ?_
  refine wpAnyH_take (i := 6) (v := .slice A2 p c2) (List.getElem?_toArray.trans rfl) (by kernel_rfl) (by kernel_rfl) (by kernel_rfl) (fun _ _ _ h => h) (.inl ⟨rfl, fun w' hS => rfl⟩) (SinceM.self _) ?_
  refine act_normM (by simp only [Act.put, List.setIfInBounds_toArray, List.set_cons_zero, List.set_cons_succ]; rfl) ?_
  refine wpAnyH_ready (rs := [0]) (by kernel_rfl) (by simp) (AllReadyH.cons (List.getElem?_toArray.trans rfl) (fun K' hK => ?_) AllReadyH.nil)
  refine wanted_goM rfl ?_
  go_simp
  have hS1 : SinceM w0 (w0.alloc (.cells #[] 5)) := (Below.refl _ _).alloc (Nat.le_refl _) _
  have ho1 := own_none w0 5
  have ht1 := SinceM.sl hS1 ht2 (Nat.le_refl _)
  refine hK.out _ _ hS1 (fun _ => ?_)
  clear hK K'
  refine wpAnyH_ready (rs := [2]) (by kernel_rfl) (by simp) (AllReadyH.cons (List.getElem?_toArray.trans rfl) (fun K' hK => ?_) AllReadyH.nil)
  refine step_app_sv rfl (.tmp 14) (.tmp 15) _ rfl w0.heap.size 5 i0 _ 1 Tryd.underlying23 hi0 hz0 hz1 hz2 rfl (.slice (some ⟨w0.heap.size, 0, none⟩) 0 0) 0 [] rfl ho1 w0.heap.size A2 p c2 (T.map cell8) rfl ht1 htl (cell8_one _) (by unfold maxLen; omega) (by omega) hS1.size ?_
  intro v3 w3 ho3 hg3
  rw [Nat.zero_add, List.nil_append] at ho3
  have hS3 : SinceM w0 w3 := Below.grown hS1 hg3 hS1.size (fun q hq => (ho1.lt q hq).1)
  have htag := rtag_any key nn l T Ab Aw A B A2 cb cw c d c2 w3.heap.size n p w3 (Nat.le_refl _) HKL.out (((HK.out.below (hF2.mono hD)).below (hS3.mono hD0)).mono (Nat.le_trans hD0 hS3.size)) HNL.out ((HS.out.below ((hF2.trans (hS3.mono hF2.size)).mono hD)).keep (Nat.le_trans hD0 hS3.size) (fun _ _ => rfl)) ((HT.out.below ((hF2.trans (hS3.mono hF2.size)).mono hD)).keep (Nat.le_trans hD0 hS3.size) (fun _ _ => rfl)) HLN.out hn ((SinceM.sl hS3 ht2 (Nat.le_refl _)).keep hS3.size (fun _ _ => rfl)) HTL.out hp
  rw [← HG0.out] at htag
  obtain ⟨A3, c3, rfl, h31, h32⟩ := own_form ho3
  refine hK.out _ _ hS3 (fun _ => ?_)
  clear hK K'
  refine wpAnyH_ready (rs := [7]) (by kernel_rfl) (by simp) (AllReadyH.cons (List.getElem?_toArray.trans rfl) (fun K' hK => ?_) AllReadyH.nil)
  refine wanted_goM rfl ?_
  go_simp
  refine htag.mono ?_
  rintro e w4 ⟨A4, c4, rfl, h41, h42, ho4, hb4⟩
  have hS4 : SinceM w0 w4 := SinceM.trans hS3 hb4
  have ho34 := own_below ho3 hb4
  refine hK.out _ _ hS4 (fun _ => ?_)
  clear hK K'
  refine wpAnyH_ready (rs := [8]) (by kernel_rfl) (by simp) (AllReadyH.cons (List.getElem?_toArray.trans rfl) (fun K' hK => ?_) AllReadyH.nil)
  refine step_app_sv rfl (.tmp 16) (.tmp 21) _ rfl w0.heap.size 5 i0 _ 1 Tryd.underlying23 hi0 hz0 hz1 hz2 rfl (.slice A3 p c3) p (T.map cell8) rfl ho34 _ A4 16 c4 (G.map cell8) rfl (Sv.of_own ho4) hgl (cell8_one _) (by unfold maxLen; omega) (by omega) hS4.size ?_
  intro v5 w5 ho5 hg5
  have hS5 : SinceM w0 w5 := Below.grown hS4 hg5 hS4.size (fun q hq => (ho34.lt q hq).1)
  rw [← List.map_append] at ho5
  refine hK.out _ _ hS5 (fun _ => ?_)
  clear hK K'
  refine wpAnyH_take (i := 9) (v := v5) (List.getElem?_toArray.trans rfl) (by kernel_rfl) (by kernel_rfl) (by kernel_rfl) (fun _ _ _ h => h) (.inl ⟨rfl, fun w' hS => rfl⟩) hS5 ?_
  refine act_normM (by simp only [Act.put, List.setIfInBounds_toArray, List.set_cons_zero, List.set_cons_succ]; rfl) ?_
  refine wpAnyH_done (by kernel_rfl) ?_ _
  have HO5 := Lib.hid (own_base ho5 hF2.size)
  have HB5 := Lib.hid (hF2.trans (hS5.mono hF2.size))
  obtain ⟨A5, c5, rfl, h51, h52⟩ := own_form ho5
  have H51 := Lib.hid h51
  have H52 := Lib.hid h52
  clear ht2 hk2 hF2 hD0 htl hgl hS1 ho1 ht1 ho3 hg3 hS3 htag hS4 ho34 hS5 ho5 hg5 ho4 hb4 h31 h32 h41 h42 h51 h52
  go_wp2
  go_ret
  exact ⟨A5, c5, rfl, H51.out, H52.out, HO5.out, HB5.out⟩
end
end Go.Proofs.YtblclinfcdalaaaDoor
