/-
  hostlerref09.Key.Tag: the document's own tag. Printed by tools/gen_gcrtag.py.
-/
import Derived.Test.YtajfpbkeabdcaaaGcRTurn
namespace Go.Proofs.Ytajfpbkeabdcaaa
open Go.RowKit
set_option linter.unusedVariables false

theorem al_len (l m : List UInt8) : (alL l m).length = (whL l).length + (whL m).length + 8 + 8 := by
  rw [alL, List.length_append, List.length_append, List.length_append, e8_len, e8_len]

/-- A block of c cells, whose first read as bytes. -/
def Pq (w : World) (g c : Nat) (e : TypeId) (l : List UInt8) : Prop := ∃ cur : List Value, Wh w g e cur.toArray ∧ cur.length = c ∧ cur.take l.length = l.map cell8
theorem Pq.pb {w : World} {g c : Nat} {e : TypeId} {l : List UInt8} (h : Pq w g c e l) : Pb w g e l := by obtain ⟨cur, h1, _, h2⟩ := h; exact ⟨cur, h1, h2⟩
theorem Pq.put {w : World} {g c : Nat} {e : TypeId} {l : List UInt8} (h : Pq w g c e l) (j : Nat) (x : UInt8) : Pq (w.setCell ⟨g, j, none⟩ (.int .u8 (x.toNat : Int))) g c e (l.set j x) := by
  obtain ⟨cur, h1, h3, h2⟩ := h
  refine ⟨cur.set j (.int .u8 (x.toNat : Int)), ?_, ?_, ?_⟩
  · have := h1.put j (.int .u8 (x.toNat : Int))
    rwa [List.setIfInBounds_toArray] at this
  · rw [List.length_set, h3]
  · rw [List.length_set, List.take_set, h2, List.map_set]
    rfl
theorem Pq.since {w w' : World} {g c : Nat} {e : TypeId} {l : List UInt8} (h : Pq w g c e l) (hb : Below w.heap.size w w') : Pq w' g c e l := by obtain ⟨cur, h1, h2⟩ := h; exact ⟨cur, h1.below hb h1.lt, h2⟩
theorem Pq.of_own {w : World} {base n : Nat} {e : TypeId} {v : Value} {l : List UInt8} (h : w.ownsRow base e 1 v n (l.map cell8)) (hn : 0 < n) : ∃ g cap, v = .slice (some ⟨g, 0, none⟩) n cap ∧ Pq w g cap e l ∧ base ≤ g ∧ n ≤ cap ∧ cap ≤ maxLen := by
  have hl : l.length = n := by have := h.1; simpa using this
  rcases h.2 with ⟨hv, hz⟩ | ⟨g', cap', cur, hv, hb, hw, hc, hm, hs, ht⟩
  · omega
  · exact ⟨g', cap', hv, ⟨cur.toList, hw, by simpa using hs, by rw [hl]; simpa using ht⟩, hb, hc, hm⟩
theorem Pq.own {w : World} {g c n base : Nat} {e : TypeId} {l : List UInt8} (h : Pq w g c e l) (hb : base ≤ g) (hl : l.length = n) (hn : n ≤ c) (hm : c ≤ maxLen) : w.ownsRow base e 1 (.slice (some ⟨g, 0, none⟩) n c) n (l.map cell8) := by
  obtain ⟨cur, h1, h3, h2⟩ := h
  have ho := own_of_wh (l := cur) h1 base n c hb h3 hn hm
  rwa [← hl, h2, hl] at ho

set_option maxRecDepth 100000 in
set_option maxHeartbeats 4000000 in
theorem rtag_any (key nn l m : List UInt8) (Ab Aw A B E : Option Addr) (cb cw c d f D n p : Nat) (w : World) (hD : D ≤ w.heap.size) (hk : key.length = 16) (hK : KeyIs w D Ab Aw key) (hl : nn.length = 12) (hs : Sl w D A nn)
    (ht : Sl w D B l) (hln : l.length = n) (hn : n ≤ 1048576) (hu : Sl w D E m) (hlp : m.length = p) (hp : p ≤ 1048576) :
    Calls Try.prog 21 #[.agg (kRow Ab Aw cb cw), .slice A 12 c, .slice B n d, .slice E p f] w (GaveN w 16 (tgL (ksL key) nn l m)) := by
  obtain ⟨i0, hi0, hz0, hz1, hz2⟩ := info_parts info8
  obtain ⟨T, hT⟩ : ∃ T, T = tgL (ksL key) nn l m := ⟨_, rfl⟩
  obtain ⟨S, hS⟩ : ∃ S, S = stG (ksL key) nn 1 := ⟨_, rfl⟩
  obtain ⟨Y, hY⟩ : ∃ Y, Y = hashL (seL (ksL key) (List.replicate 16 0)) (alL l m) := ⟨_, rfl⟩
  obtain ⟨Z, hZ⟩ : ∃ Z : List UInt8, Z = List.replicate 16 0 := ⟨_, rfl⟩
  have hTY : T = xoG Y S := by rw [hT, hY, hS]; exact tag_ref (ksL key) nn l m (by omega) (by omega)
  have hTl : T.length = 16 := by rw [hT]; exact tg_len _ _ _ _
  have hSl : S.length = 16 := by rw [hS]; exact st_len _ _ _
  have hYl : Y.length = 16 := by rw [hY]; exact hsN_len (seL_len _ _) _ _
  rw [← hZ] at hY
  have HT0 := Deep.mk hT
  have HTY := Deep.mk hTY
  have HTL := Deep.mk hTl
  have HSL := Deep.mk hSl
  have HYL := Deep.mk hYl
  have HS0 := Deep.mk hS
  have HY0 := Deep.mk hY
  have HZR := Deep.mk hZ
  obtain ⟨a, ha⟩ : ∃ a, a = n + (16 - n % 16) % 16 := ⟨_, rfl⟩
  obtain ⟨b, hb⟩ : ∃ b, b = p + (16 - p % 16) % 16 := ⟨_, rfl⟩
  have hwa : (whL l).length = a := by rw [wh_len, hln, ha]
  have hwb : (whL m).length = b := by rw [wh_len, hlp, hb]
  have ha2 : a ≤ 1048592 := by omega
  have hb2 : b ≤ 1048592 := by omega
  obtain ⟨q1, hq1⟩ : ∃ q, q = a + b := ⟨_, rfl⟩
  obtain ⟨q2, hq2⟩ : ∃ q, q = q1 + 8 := ⟨_, rfl⟩
  obtain ⟨q3, hq3⟩ : ∃ q, q = q2 + 8 := ⟨_, rfl⟩
  have HAL : Deep ((alL l m).length = q3) := ⟨by rw [al_len, hwa, hwb]; omega⟩
  have HA := Deep.mk ha
  have HB := Deep.mk hb
  have HQ1 := Deep.mk hq1
  have HQ2 := Deep.mk hq2
  have HQ3 := Deep.mk hq3
  have HWB := Deep.mk hwb
  have HKL := Deep.mk hk
  have HNL := Deep.mk hl
  have HLN := Deep.mk hln
  have HLP := Deep.mk hlp
  have HK := Lib.hid hK
  have HS := Lib.hid hs
  have HT := Lib.hid ht
  have HU := Lib.hid hu
  have h1 := Wh.new w 27 (kRow Ab Aw cb cw)
  have hbe : Below w.heap.size w (w.alloc (.cells (kRow Ab Aw cb cw) 27)) := (Below.refl _ _).alloc (Nat.le_refl _) _
  clear hk hK hl hs ht hu hT hln hlp hS hY hZ hTY hTl hSl hYl ha hb hq1 hq2 hq3 hwa hwb
  rw [← HT0.out]
  go_enter Try.func21, Try.ntmps21
  go_upto_region 1 with (fail)
  obtain ⟨kb, hkb⟩ : ∃ b, b = w.heap.size := ⟨_, rfl⟩
  rw [← hkb] at h1 ⊢
  generalize w.alloc (.cells (kRow Ab Aw cb cw) 27) = w1 at *
  have H1 := Lib.hid h1
  have HB1 := Lib.hid hbe
  clear hkb h1 hbe
  go_wp2_with fail
  refine (rwhole_any l B d w1.heap.size n w1 (Nat.le_refl _) HLN.out (by omega) ((HT.out.below (HB1.out.mono hD)).keep (Nat.le_trans hD HB1.out.size) (fun _ _ => rfl))).mono ?_
  rw [← HA.out]
  rintro e w2 ⟨A2, c2, rfl, h21, h22, ho2, hb2'⟩
  have HO2 := Lib.hid ho2
  have HB2 := Lib.hid hb2'
  have HD2 := Lib.hid (HB1.out.trans (hb2'.mono HB1.out.size))
  clear ho2 hb2'
  go_wp2_with fail
  refine (rwhole_any m E f w2.heap.size p w2 (Nat.le_refl _) HLP.out (by omega) ((HU.out.below (HD2.out.mono hD)).keep (Nat.le_trans hD HD2.out.size) (fun _ _ => rfl))).mono ?_
  rw [← HB.out]
  rintro e w3 ⟨A3, c3, rfl, h31, h32, ho3, hb3⟩
  have ho23 := own_below HO2.out hb3
  have hn3 := Sv.of_own ho3
  have HB3 := Lib.hid (HB2.out.trans (hb3.mono HB2.out.size))
  have hsz3 := HB3.out.size
  have hwbl : ((whL m).map cell8).length = b := by rw [List.length_map, HWB.out]
  clear HO2 ho3 hb3 HB2 HD2
  go_upto_region 2 with (first
    | (at_builtin; refine wpList_append_sv _ rfl (.tmp 14) (.tmp 16) _ rfl w1.heap.size 5 i0 _ 1 Try.underlying24 hi0 hz0 hz1 hz2 rfl (.slice A2 a c2) a _ rfl ho23 _ A3 b c3 _ rfl hn3 hwbl (cell8_one _) (by unfold maxLen; omega) (by omega) hsz3 ?_; intro v4 w4 ho4 hg4 _; rw [← HQ1.out, ← List.map_append] at ho4; have HO4 := Lib.hid ho4; have HB4 := Lib.hid (HB3.out.grown hg4 hsz3 (fun q hq => (ho23.lt q hq).1)); clear ho4 hg4))
  clear ho23 hn3 HB3 hsz3 hwbl h21 h22 h31 h32
  obtain ⟨A4, c4, rfl, h41, h42⟩ := own_form HO4.out
  have H42 := Lib.hid h42
  clear h41 h42
  go_wp2_with fail
  refine (reight_any n w4 (by omega)).mono ?_
  rintro e w5 ⟨A5, c5, rfl, h51, h52, ho5, hb5⟩
  have ho45 := own_below HO4.out hb5
  have hn5 := Sv.of_own ho5
  have HB5 := Lib.hid (HB4.out.trans (hb5.mono HB4.out.size))
  have hsz5 := HB5.out.size
  have he8l : ((e8L (8 * n)).map cell8).length = 8 := by rw [List.length_map, e8_len]
  have hq1b : q1 ≤ 2097184 := by have := HQ1.out; omega
  clear HO4 ho5 hb5 HB4
  go_wp2_with (first
    | (at_builtin; refine wpList_append_sv _ rfl (.tmp 18) (.tmp 21) _ rfl w1.heap.size 5 i0 _ 1 Try.underlying24 hi0 hz0 hz1 hz2 rfl (.slice A4 q1 c4) q1 _ rfl ho45 _ A5 8 c5 _ rfl hn5 he8l (cell8_one _) (by unfold maxLen; omega) (by omega) hsz5 ?_; intro v6 w6 ho6 hg6 _; rw [← HQ2.out, ← List.map_append] at ho6; have HO6 := Lib.hid ho6; have HB6 := Lib.hid (HB5.out.grown hg6 hsz5 (fun q hq => (ho45.lt q hq).1)); clear ho6 hg6))
  clear ho45 hn5 HB5 hsz5 he8l h51 h52
  obtain ⟨A6, c6, rfl, h61, h62⟩ := own_form HO6.out
  refine (reight_any p w6 (by omega)).mono ?_
  rintro e w7 ⟨A7, c7, rfl, h71, h72, ho7, hb7⟩
  have ho67 := own_below HO6.out hb7
  have hn7 := Sv.of_own ho7
  have HB7 := Lib.hid (HB6.out.trans (hb7.mono HB6.out.size))
  have hsz7 := HB7.out.size
  have he8l : ((e8L (8 * p)).map cell8).length = 8 := by rw [List.length_map, e8_len]
  have hq2b : q2 ≤ 2097192 := by have := HQ2.out; omega
  clear HO6 ho7 hb7 HB6
  go_upto_region 3 with (first
    | (at_builtin; refine wpList_append_sv _ rfl (.tmp 22) (.tmp 25) _ rfl w1.heap.size 5 i0 _ 1 Try.underlying24 hi0 hz0 hz1 hz2 rfl (.slice A6 q2 c6) q2 _ rfl ho67 _ A7 8 c7 _ rfl hn7 he8l (cell8_one _) (by unfold maxLen; omega) (by omega) hsz7 ?_; intro v8 w8 ho8 hg8 _; rw [← HQ3.out, ← List.map_append] at ho8; have HO8 := Lib.hid ho8; have HB8 := Lib.hid (HB7.out.grown hg8 hsz7 (fun q hq => (ho67.lt q hq).1)); clear ho8 hg8))
  clear ho67 hn7 HB7 hsz7 he8l h61 h62 h71 h72
  obtain ⟨A8, c8, rfl, h81, h82⟩ := own_form HO8.out
  have hq3b : q3 ≤ 2097200 := by have := HQ3.out; omega
  have HSA : Hid (Sl w8 w8.heap.size A8 (alL l m)) := by
    have h := Sv.of_own HO8.out
    rw [← HLN.out, ← HLP.out] at h
    exact Lib.hid h
  have HK8 : Hid (Wh w8 kb 27 (kRow Ab Aw cb cw)) := Lib.hid (H1.out.below HB8.out H1.out.lt)
  have HF8 := Lib.hid (HB1.out.trans (HB8.out.mono HB1.out.size))
  clear HO8 h81 h82 H1 HB1 HB8
  have hsa : Sl w8.drew w8.drew.heap.size A8 (alL l m) := HSA.out
  have hk8 : Wh w8.drew kb 27 (kRow Ab Aw cb cw) := HK8.out
  have hF8 : Below w.heap.size w w8.drew := HF8.out.drew
  clear HSA HK8 HF8
  refine wp_region_held_drew (S := fun w' => SinceM w8.drew w') (by kernel_rfl) (SinceM.self _) (fun _ => ?_)
  generalize w8.drew = w0 at *
  have HKK := HK.out.below (hF8.mono hD)
  have hD0 := Nat.le_trans hD hF8.size
  refine wpAnyH_take (i := 0) (v := .agg (kRow Ab Aw cb cw)) (List.getElem?_toArray.trans rfl) (by kernel_rfl) (by kernel_rfl) (by kernel_rfl) (fun _ _ _ h => h) (yieldsIf_load_mid (by rfl) 27 (.tmp 4) rfl kb 0 rfl [.slice Ab 256 cb, .slice Aw 176 cw] _ (fun w' hS => Wh.whole (SinceM.wh hS hk8)) Try.underlying27 rfl (info_key Ab Aw cb cw)) (SinceM.self _) ?_
  refine act_normM (by simp only [Act.put, List.setIfInBounds_toArray, List.set_cons_zero, List.set_cons_succ]; rfl) ?_
  refine wpAnyH_take (i := 3) (v := .slice A8 q3 c8) (List.getElem?_toArray.trans rfl) (by kernel_rfl) (by kernel_rfl) (by kernel_rfl) (fun _ _ _ h => h) (.inl ⟨rfl, fun w' hS => rfl⟩) (SinceM.self _) ?_
  refine act_normM (by simp only [Act.put, List.setIfInBounds_toArray, List.set_cons_zero, List.set_cons_succ]; rfl) ?_
  refine wpAnyH_ready (rs := [1]) (by kernel_rfl) (by simp) (AllReadyH.cons (List.getElem?_toArray.trans rfl) (fun K' hK => ?_) AllReadyH.nil)
  refine wanted_goM rfl ?_
  refine wp_make_mnM (.const (.int .i64 16)) (.const (.int .i64 16)) 24 rfl 5 i0 _ Try.underlying24 hi0 hz0 hz1 rfl .i64 .i64 16 16 16 16 rfl rfl rfl rfl (Nat.le_refl _) (by rw [hz2]; omega) (by omega) ?_
  rw [zrow, ← HZR.out]
  have hS2 : SinceM w0 (w0.alloc (.cells (aRow Z) 5)) := (Below.refl _ _).alloc (Nat.le_refl _) _
  have hz3 := sl_of_whA (Wh.new w0 5 (aRow Z))
  obtain ⟨zb, hzb⟩ : ∃ b, b = w0.heap.size := ⟨_, rfl⟩
  rw [← hzb] at hz3 ⊢
  clear hzb
  generalize w0.alloc (.cells (aRow Z) 5) = w2 at *
  refine hK.out _ _ hS2 (fun _ => ?_)
  clear hK K'
  refine wpAnyH_ready (rs := [2]) (by kernel_rfl) (by simp) (AllReadyH.cons (List.getElem?_toArray.trans rfl) (fun K' hK => ?_) AllReadyH.nil)
  refine wanted_goM rfl ?_
  go_simp
  refine (rblock_any key Z Ab Aw (some ⟨zb, 0, none⟩) cb cw 16 w2.heap.size w2 (Nat.le_refl _) HKL.out ((HKK.below (hS2.mono hD0)).mono (Nat.le_trans hD0 hS2.size)) (by rw [HZR.out]; rfl) hz3).mono ?_
  rintro e w3 ⟨A9, c9, rfl, hs9, hb9⟩
  have hS3 : SinceM w0 w3 := SinceM.trans hS2 hb9
  refine hK.out _ _ hS3 (fun _ => ?_)
  clear hK K'
  refine wpAnyH_ready (rs := [4]) (by kernel_rfl) (by simp) (AllReadyH.cons (List.getElem?_toArray.trans rfl) (fun K' hK => ?_) AllReadyH.nil)
  refine wanted_goM rfl ?_
  go_simp
  have hhash := rhash_any (seL (ksL key) Z) (alL l m) A9 A8 c9 c8 w3.heap.size q3 w3 (Nat.le_refl _) (seL_len _ _) HAL.out (by omega) hs9.sv ((SinceM.sl hS3 hsa (Nat.le_refl _)).keep hS3.size (fun _ _ => rfl))
  rw [← HY0.out] at hhash
  refine hhash.mono ?_
  rintro e w4 ⟨A10, c10, rfl, h101, h102, ho10, hb10⟩
  have hS4 : SinceM w0 w4 := SinceM.trans hS3 hb10
  refine hK.out _ _ hS4 (fun _ => ?_)
  clear hK K'
  refine wpAnyH_take (i := 5) (v := .slice A10 16 c10) (List.getElem?_toArray.trans rfl) (by kernel_rfl) (by kernel_rfl) (by kernel_rfl) (fun _ _ _ h => h) (.inl ⟨rfl, fun w' hS => rfl⟩) hS4 ?_
  refine act_normM (by simp only [Act.put, List.setIfInBounds_toArray, List.set_cons_zero, List.set_cons_succ]; rfl) ?_
  refine wpAnyH_done (by kernel_rfl) ?_ _
  obtain ⟨g, cg, e10, hpg, hgl, hcg1, hcg2⟩ := Pq.of_own (own_base ho10 (Nat.le_trans hF8.size hS3.size)) (by omega)
  simp only [Value.slice.injEq, true_and] at e10
  obtain ⟨rfl, rfl⟩ := e10
  have HP4 := Lib.hid hpg
  have HG := Lib.hid hgl
  have HC1 := Lib.hid hcg1
  have HC2 := Lib.hid hcg2
  have HB4 := Lib.hid (hF8.trans (hS4.mono hF8.size))
  have HK4 := Lib.hid (SinceM.wh hS4 hk8)
  have hstr := rstream_any key nn Ab Aw A cb cw c D 1 w4 (Nat.le_trans hD HB4.out.size) HKL.out (HK.out.below (HB4.out.mono hD)) HNL.out (HS.out.below (HB4.out.mono hD)) (by omega)
  rw [← HS0.out] at hstr
  have HSTR := Lib.hid hstr
  clear hcg1 hcg2 hsa hk8 hF8 HKK hD0 hS2 hz3 hs9 hb9 hS3 ho10 hb10 hS4 hpg hgl hstr h101 h102 hhash
  go_wp2_with (first
    | (refine wpList_load_row rfl 27 (.tmp 4) rfl kb rfl _ (kRow Ab Aw cb cw) _ _ HK4.out Try.underlying27 rfl (info_key Ab Aw cb cw) ?_))
  refine HSTR.out.mono ?_
  rintro e w5 ⟨A3, c3, rfl, hs3, hb3⟩
  obtain ⟨b3, o3, rfl, hlo3, hlt3, hc3⟩ := hs3 (by intro e; have := congrArg List.length e; rw [List.length_map, HSL.out] at this; cases this)
  have HP5 : Hid (Pq w5 g c10 5 (jnN Y S 0)) := Lib.hid (HP4.out.since hb3)
  have HB5 := Lib.hid (HB4.out.trans (hb3.mono HB4.out.size))
  have HF5 : Hid (Fr w5 (.slice (some ⟨g, 0, none⟩) 16 c10) b3 o3 S) := Lib.hid ⟨hlt3, by intro e; have h := Option.some.inj e; have h2 := HP4.out.pb.lt; change g = b3 at h; omega, fun k hk => hc3 k _ (by rw [List.getElem?_map, List.getD_eq_getElem?_getD, List.getElem?_eq_getElem hk]; rfl)⟩
  clear hb3 hs3 hlo3 hlt3 hc3 HSTR HP4 HB4 HK4
  go_wp2_with fail
  go_loopw [12] (fun kk wr => ∃ k : Nat, k ≤ 16 ∧ kk = .int .i64 (k : Int) ∧ Hid (Pq wr g c10 5 (jnN Y S k)) ∧ Hid (Below w.heap.size w wr) ∧ Hid (Fr wr (.slice (some ⟨g, 0, none⟩) 16 c10) b3 o3 S)) (fun kk _ => 16 - (intOf kk).toNat)
  case atStart => exact ⟨0, by omega, rfl, HP5, HB5, HF5⟩
  case round =>
    obtain ⟨k, hk, rfl, HP6, HB6, HF6⟩ := hrel
    clear HP5 HB5 HF5
    by_cases hlk : k < 16
    · obtain ⟨u, hu⟩ : ∃ u, u = jnN Y S k := ⟨_, rfl⟩
      have hul : u.length = 16 := by rw [hu, jnN_len, HYL.out]
      rw [← hu] at HP6
      have hcu := HP6.out.pb.cell (j := k) (by omega)
      have hfu := HP6.out.pb.frozen k
      have hcq := HF6.out.2.2 k (by rw [HSL.out]; omega)
      obtain ⟨x, hx⟩ : ∃ x, x = u.getD k 0 := ⟨_, rfl⟩
      obtain ⟨y, hy⟩ : ∃ y, y = S.getD k 0 := ⟨_, rfl⟩
      rw [← hx] at hcu
      rw [← hy] at hcq
      obtain ⟨z, hz⟩ : ∃ z, z = x ^^^ y := ⟨_, rfl⟩
      have HNJ : Deep (u.set k z = jnN Y S (k + 1)) := ⟨by rw [hz, hx, hy, hu]; rfl⟩
      have HZZ := Deep.mk hz
      have hki : (k : Int) < 16 := by omega
      have hput := HP6.out.put k z
      have hgs := grown_trans (grown_below (row := some g) ((Below.refl _ wr).drew)) (grown_set wr.drew g k (.int .u8 (z.toNat : Int)))
      have HPU : Hid (Pq (wr.drew.setCell ⟨g, k, none⟩ (.int .u8 (z.toNat : Int))) g c10 5 (u.set k z)) := Lib.hid hput
      have HGS := Lib.hid hgs
      have HCU : Hid (wr.drew.cell? ⟨g, k, none⟩ = some (.int .u8 (x.toNat : Int))) := Lib.hid hcu
      have HFU : Hid (wr.drew.frozen? ⟨g, k, none⟩ = false) := Lib.hid hfu
      have HCQ : Hid (wr.drew.cell? ⟨b3, o3 + k, none⟩ = some (.int .u8 (y.toNat : Int))) := Lib.hid hcq
      clear hu hul hcu hfu hcq hx hy hz hput hgs
      go_wp2_with fail
      have hcd := HCU.out
      have hfd := HFU.out
      have hcqd := HCQ.out
      refine wp_region_held_drew (S := fun _ => True) (by kernel_rfl) trivial (fun _ => ?_)
      refine wpAnyH_take (i := 0) (v := .slice (some ⟨g, 0, none⟩) 16 c10) (List.getElem?_toArray.trans rfl) (by kernel_rfl) (by kernel_rfl) (by kernel_rfl) (fun _ _ _ h => h) (.inl ⟨rfl, fun w' hS => rfl⟩) trivial ?_
      refine act_normM (by simp only [Act.put, List.setIfInBounds_toArray, List.set_cons_zero, List.set_cons_succ]; rfl) ?_
      refine wpAnyH_take (i := 1) (v := .int .i64 (k : Int)) (List.getElem?_toArray.trans rfl) (by kernel_rfl) (by kernel_rfl) (by kernel_rfl) (fun _ _ _ h => h) (.inl ⟨rfl, fun w' hS => rfl⟩) trivial ?_
      refine act_normM (by simp only [Act.put, List.setIfInBounds_toArray, List.set_cons_zero, List.set_cons_succ]; rfl) ?_
      refine wpAnyH_take (i := 2) (v := .slice (some ⟨g, 0, none⟩) 16 c10) (List.getElem?_toArray.trans rfl) (by kernel_rfl) (by kernel_rfl) (by kernel_rfl) (fun _ _ _ h => h) (.inl ⟨rfl, fun w' hS => rfl⟩) trivial ?_
      refine act_normM (by simp only [Act.put, List.setIfInBounds_toArray, List.set_cons_zero, List.set_cons_succ]; rfl) ?_
      refine wpAnyH_take (i := 3) (v := .int .i64 (k : Int)) (List.getElem?_toArray.trans rfl) (by kernel_rfl) (by kernel_rfl) (by kernel_rfl) (fun _ _ _ h => h) (.inl ⟨rfl, fun w' hS => rfl⟩) trivial ?_
      refine act_normM (by simp only [Act.put, List.setIfInBounds_toArray, List.set_cons_zero, List.set_cons_succ]; rfl) ?_
      refine wpAnyH_take (i := 4) (v := .pointer (some ⟨g, k, none⟩)) (List.getElem?_toArray.trans rfl) (by kernel_rfl) (by kernel_rfl) (by kernel_rfl) (fun _ _ _ h => h) (.inl ⟨rfl, fun w' hS => by simp [go_sem, hki]⟩) trivial ?_
      refine act_normM (by simp only [Act.put, List.setIfInBounds_toArray, List.set_cons_zero, List.set_cons_succ]; rfl) ?_
      refine wpAnyH_take (i := 6) (v := .slice (some ⟨b3, o3, none⟩) 16 c3) (List.getElem?_toArray.trans rfl) (by kernel_rfl) (by kernel_rfl) (by kernel_rfl) (fun _ _ _ h => h) (.inl ⟨rfl, fun w' hS => rfl⟩) trivial ?_
      refine act_normM (by simp only [Act.put, List.setIfInBounds_toArray, List.set_cons_zero, List.set_cons_succ]; rfl) ?_
      refine wpAnyH_take (i := 7) (v := .int .i64 (k : Int)) (List.getElem?_toArray.trans rfl) (by kernel_rfl) (by kernel_rfl) (by kernel_rfl) (fun _ _ _ h => h) (.inl ⟨rfl, fun w' hS => rfl⟩) trivial ?_
      refine act_normM (by simp only [Act.put, List.setIfInBounds_toArray, List.set_cons_zero, List.set_cons_succ]; rfl) ?_
      refine wpAnyH_take (i := 8) (v := .pointer (some ⟨b3, o3 + k, none⟩)) (List.getElem?_toArray.trans rfl) (by kernel_rfl) (by kernel_rfl) (by kernel_rfl) (fun _ _ _ h => h) (.inl ⟨rfl, fun w' hS => by simp [go_sem, hki]⟩) trivial ?_
      refine act_normM (by simp only [Act.put, List.setIfInBounds_toArray, List.set_cons_zero, List.set_cons_succ]; rfl) ?_
      refine wpAnyH_ready (rs := [5, 9]) (by kernel_rfl) (by simp) (AllReadyH.cons (List.getElem?_toArray.trans rfl) (fun K' hK => ?_) (AllReadyH.cons (List.getElem?_toArray.trans rfl) (fun K' hK => ?_) AllReadyH.nil))
      · refine wanted_goM rfl ?_
        go_simp
        refine hK.out _ _ trivial (fun _ => ?_)
        clear hK K'
        refine wpAnyH_ready (rs := [9]) (by kernel_rfl) (by simp) (AllReadyH.cons (List.getElem?_toArray.trans rfl) (fun K' hK => ?_) AllReadyH.nil)
        refine wanted_goM rfl ?_
        go_simp
        refine hK.out _ _ trivial (fun _ => ?_)
        clear hK K'
        refine wpAnyH_take (i := 10) (v := .int .u8 (z.toNat : Int)) (List.getElem?_toArray.trans rfl) (by kernel_rfl) (by kernel_rfl) (by kernel_rfl) (fun _ _ _ h => h) (.inl ⟨rfl, fun w' hS => by rw [HZZ.out, ← b_xor]; simp [go_sem]⟩) trivial ?_
        refine act_normM (by simp only [Act.put, List.setIfInBounds_toArray, List.set_cons_zero, List.set_cons_succ]; rfl) ?_
        refine wpAnyH_take (i := 11) (v := .pointer (some ⟨g, k, none⟩)) (List.getElem?_toArray.trans rfl) (by kernel_rfl) (by kernel_rfl) (by kernel_rfl) (fun _ _ _ h => h) (.inl ⟨rfl, fun w' hS => by simp [go_sem, hki]⟩) trivial ?_
        refine act_normM (by simp only [Act.put, List.setIfInBounds_toArray, List.set_cons_zero, List.set_cons_succ]; rfl) ?_
        refine wpAnyH_ready (rs := [12]) (by kernel_rfl) (by simp) (AllReadyH.cons (List.getElem?_toArray.trans rfl) (fun K' hK => ?_) AllReadyH.nil)
        refine wanted_goM rfl ?_
        go_simp
        refine hK.out _ _ trivial (fun _ => ?_)
        clear hK K'
        refine wpAnyH_done (by kernel_rfl) ?_ _
        clear hcd hfd hcqd hki
        change Exit.inBlock 1 _ _ _ (wr.drew.setCell ⟨g, k, none⟩ (.int .u8 (z.toNat : Int)))
        generalize wr.drew.setCell ⟨g, k, none⟩ (.int .u8 (z.toNat : Int)) = w5 at *
        go_wp2
        refine ⟨⟨k + 1, by omega, by go_num, ?_, Lib.hid (HB6.out.grown HGS.out HB6.out.size (fun q hq => by have := Option.some.inj hq; have := HG.out; omega)), Lib.hid (HF6.out.more HGS.out (Or.inl rfl))⟩, by simp [intOf]; omega⟩
        rw [← HNJ.out]
        exact HPU
      · refine wanted_goM rfl ?_
        go_simp
        refine hK.out _ _ trivial (fun _ => ?_)
        clear hK K'
        refine wpAnyH_ready (rs := [5]) (by kernel_rfl) (by simp) (AllReadyH.cons (List.getElem?_toArray.trans rfl) (fun K' hK => ?_) AllReadyH.nil)
        refine wanted_goM rfl ?_
        go_simp
        refine hK.out _ _ trivial (fun _ => ?_)
        clear hK K'
        refine wpAnyH_take (i := 10) (v := .int .u8 (z.toNat : Int)) (List.getElem?_toArray.trans rfl) (by kernel_rfl) (by kernel_rfl) (by kernel_rfl) (fun _ _ _ h => h) (.inl ⟨rfl, fun w' hS => by rw [HZZ.out, ← b_xor]; simp [go_sem]⟩) trivial ?_
        refine act_normM (by simp only [Act.put, List.setIfInBounds_toArray, List.set_cons_zero, List.set_cons_succ]; rfl) ?_
        refine wpAnyH_take (i := 11) (v := .pointer (some ⟨g, k, none⟩)) (List.getElem?_toArray.trans rfl) (by kernel_rfl) (by kernel_rfl) (by kernel_rfl) (fun _ _ _ h => h) (.inl ⟨rfl, fun w' hS => by simp [go_sem, hki]⟩) trivial ?_
        refine act_normM (by simp only [Act.put, List.setIfInBounds_toArray, List.set_cons_zero, List.set_cons_succ]; rfl) ?_
        refine wpAnyH_ready (rs := [12]) (by kernel_rfl) (by simp) (AllReadyH.cons (List.getElem?_toArray.trans rfl) (fun K' hK => ?_) AllReadyH.nil)
        refine wanted_goM rfl ?_
        go_simp
        refine hK.out _ _ trivial (fun _ => ?_)
        clear hK K'
        refine wpAnyH_done (by kernel_rfl) ?_ _
        clear hcd hfd hcqd hki
        change Exit.inBlock 1 _ _ _ (wr.drew.setCell ⟨g, k, none⟩ (.int .u8 (z.toNat : Int)))
        generalize wr.drew.setCell ⟨g, k, none⟩ (.int .u8 (z.toNat : Int)) = w5 at *
        go_wp2
        refine ⟨⟨k + 1, by omega, by go_num, ?_, Lib.hid (HB6.out.grown HGS.out HB6.out.size (fun q hq => by have := Option.some.inj hq; have := HG.out; omega)), Lib.hid (HF6.out.more HGS.out (Or.inl rfl))⟩, by simp [intOf]; omega⟩
        rw [← HNJ.out]
        exact HPU
    · have hkd : decide ((k : Int) < 16) = false := by rw [decide_eq_false_iff_not]; omega
      have HPT : Hid (Pq wr g c10 5 T) := by
        have h := HP6.out
        rw [show k = Y.length by rw [HYL.out]; omega, jn_all Y S (by rw [HYL.out, HSL.out]), ← HTY.out] at h
        exact Lib.hid h
      clear HP6 HF6 hlk hk
      go_wp2
      go_ret
      exact ⟨_, _, rfl, HC1.out, HC2.out, HPT.out.own HG.out HTL.out HC1.out HC2.out, HB6.out⟩
end Go.Proofs.Ytajfpbkeabdcaaa
