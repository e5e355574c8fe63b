/-
  hostlerref09.Key.Open: the document's own opening. Printed by tools/gen_gcropen.py.
-/
import Derived.Test.YtajfpbkeabdcaaaGcRSeal
import Derived.Test.YtajfpbkeabdcaaaGcGave
namespace Go.Proofs.Ytajfpbkeabdcaaa
open Go.RowKit
set_option linter.unusedVariables false

theorem strB_ne {a b : List UInt8} (h : ¬ a = b) : ¬ (strB a).toList = (strB b).toList := fun e => h (by
  rw [Go.ByteArray.toList_eq, Go.ByteArray.toList_eq] at e
  exact e)

set_option maxRecDepth 100000 in
set_option maxHeartbeats 1000000 in
theorem rgopen_short (key nn l m : List UInt8) (Ab Aw A B E : Option Addr) (cb cw c d f D n p : Nat) (w : World) (hD : D ≤ w.heap.size) (hk : key.length = 16) (hK : KeyIs w D Ab Aw key) (hl : nn.length = 12) (hs : Sl w D A nn)
    (ht : Sl w D B l) (hln : l.length = n) (hn : n ≤ 1048576) (hu : Sl w D E m) (hlp : m.length = p) (hp : p ≤ 1048576) (hpf : p ≤ f) (hfm : f ≤ maxLen) (hp16 : p < 16) :
    Calls Try.prog 12 #[.agg (kRow Ab Aw cb cw), .slice A 12 c, .slice B n d, .slice E p f] w (OpenG w key nn l m) := by
  have h1 := Wh.new w 27 (kRow Ab Aw cb cw)
  have hbe : Below w.heap.size w (w.alloc (.cells (kRow Ab Aw cb cw) 27)) := (Below.refl _ _).alloc (Nat.le_refl _) _
  have hd : decide ((p : Int) - 16 < 0) = true := by rw [decide_eq_true_iff]; omega
  have HM := Lib.hid hp16
  have HLP := Deep.mk hlp
  clear hk hK hl hs ht hu hln hlp hpf hfm
  go_enter Try.func12, Try.ntmps12
  go_upto_region 1 with (fail)
  obtain ⟨kb, hkb⟩ : ∃ b, b = w.heap.size := ⟨_, rfl⟩
  rw [← hkb] at h1 ⊢
  generalize w.alloc (.cells (kRow Ab Aw cb cw) 27) = w1 at *
  have H1 := Lib.hid h1
  have HB1 := Lib.hid hbe
  clear hkb h1 hbe
  go_upto_region 2 with (fail)
  have hB0 : Below w.heap.size w w1.drew := HB1.out.drew
  clear HB1 H1
  refine wp_region_held_drew (S := fun w' => SinceM w1.drew w') (by kernel_rfl) (SinceM.self _) (fun _ => ?_)
  generalize w1.drew = w0 at *
  refine wpAnyH_take (i := 0) (v := .int .i64 ((p : Int) - 16)) (List.getElem?_toArray.trans rfl) (by kernel_rfl) (by kernel_rfl) (by kernel_rfl) (fun _ _ _ h => h) (.inl ⟨rfl, fun w' hS => rfl⟩) (SinceM.self _) ?_
  refine act_normM (by simp only [Act.put, List.setIfInBounds_toArray, List.set_cons_zero, List.set_cons_succ]; rfl) ?_
  refine wpAnyH_take (i := 1) (v := .bool true) (List.getElem?_toArray.trans rfl) (by kernel_rfl) (by kernel_rfl) (by kernel_rfl) (fun _ _ _ h => h) (.inl ⟨rfl, fun w' hS => by simp [go_sem, hd]⟩) (SinceM.self _) ?_
  refine act_normM (by simp only [Act.put, List.setIfInBounds_toArray, List.set_cons_zero, List.set_cons_succ]; rfl) ?_
  refine wpAnyH_take (i := 2) (v := .bool true) (List.getElem?_toArray.trans rfl) (by kernel_rfl) (by kernel_rfl) (by kernel_rfl) (fun _ _ _ h => h) (.inl ⟨rfl, fun w' hS => rfl⟩) (SinceM.self _) ?_
  refine act_normM (by simp only [Act.put, List.setIfInBounds_toArray, List.set_cons_zero, List.set_cons_succ]; rfl) ?_
  refine wpAnyH_take (i := 3) (v := undef) (List.getElem?_toArray.trans rfl) (by kernel_rfl) (by kernel_rfl) (by kernel_rfl) (fun _ _ _ h => h) (.inr ⟨rfl, rfl⟩) (SinceM.self _) ?_
  refine act_normM (by simp only [Act.put, List.setIfInBounds_toArray, List.set_cons_zero, List.set_cons_succ]; rfl) ?_
  refine wpAnyH_take (i := 4) (v := undef) (List.getElem?_toArray.trans rfl) (by kernel_rfl) (by kernel_rfl) (by kernel_rfl) (fun _ _ _ h => h) (.inr ⟨rfl, rfl⟩) (SinceM.self _) ?_
  refine act_normM (by simp only [Act.put, List.setIfInBounds_toArray, List.set_cons_zero, List.set_cons_succ]; rfl) ?_
  refine wpAnyH_take (i := 5) (v := undef) (List.getElem?_toArray.trans rfl) (by kernel_rfl) (by kernel_rfl) (by kernel_rfl) (fun _ _ _ h => h) (.inr ⟨rfl, rfl⟩) (SinceM.self _) ?_
  refine act_normM (by simp only [Act.put, List.setIfInBounds_toArray, List.set_cons_zero, List.set_cons_succ]; rfl) ?_
  refine wpAnyH_take (i := 6) (v := undef) (List.getElem?_toArray.trans rfl) (by kernel_rfl) (by kernel_rfl) (by kernel_rfl) (fun _ _ _ h => h) (.inr ⟨rfl, rfl⟩) (SinceM.self _) ?_
  refine act_normM (by simp only [Act.put, List.setIfInBounds_toArray, List.set_cons_zero, List.set_cons_succ]; rfl) ?_
  refine wpAnyH_take (i := 7) (v := undef) (List.getElem?_toArray.trans rfl) (by kernel_rfl) (by kernel_rfl) (by kernel_rfl) (fun _ _ _ h => h) (.inr ⟨rfl, rfl⟩) (SinceM.self _) ?_
  refine act_normM (by simp only [Act.put, List.setIfInBounds_toArray, List.set_cons_zero, List.set_cons_succ]; rfl) ?_
  refine wpAnyH_take (i := 8) (v := undef) (List.getElem?_toArray.trans rfl) (by kernel_rfl) (by kernel_rfl) (by kernel_rfl) (fun _ _ _ h => h) (.inr ⟨rfl, rfl⟩) (SinceM.self _) ?_
  refine act_normM (by simp only [Act.put, List.setIfInBounds_toArray, List.set_cons_zero, List.set_cons_succ]; rfl) ?_
  refine wpAnyH_take (i := 9) (v := undef) (List.getElem?_toArray.trans rfl) (by kernel_rfl) (by kernel_rfl) (by kernel_rfl) (fun _ _ _ h => h) (.inr ⟨rfl, rfl⟩) (SinceM.self _) ?_
  refine act_normM (by simp only [Act.put, List.setIfInBounds_toArray, List.set_cons_zero, List.set_cons_succ]; rfl) ?_
  refine wpAnyH_take (i := 10) (v := undef) (List.getElem?_toArray.trans rfl) (by kernel_rfl) (by kernel_rfl) (by kernel_rfl) (fun _ _ _ h => h) (.inr ⟨rfl, rfl⟩) (SinceM.self _) ?_
  refine act_normM (by simp only [Act.put, List.setIfInBounds_toArray, List.set_cons_zero, List.set_cons_succ]; rfl) ?_
  refine wpAnyH_take (i := 11) (v := undef) (List.getElem?_toArray.trans rfl) (by kernel_rfl) (by kernel_rfl) (by kernel_rfl) (fun _ _ _ h => h) (.inr ⟨rfl, rfl⟩) (SinceM.self _) ?_
  refine act_normM (by simp only [Act.put, List.setIfInBounds_toArray, List.set_cons_zero, List.set_cons_succ]; rfl) ?_
  refine wpAnyH_take (i := 12) (v := undef) (List.getElem?_toArray.trans rfl) (by kernel_rfl) (by kernel_rfl) (by kernel_rfl) (fun _ _ _ h => h) (.inr ⟨rfl, rfl⟩) (SinceM.self _) ?_
  refine act_normM (by simp only [Act.put, List.setIfInBounds_toArray, List.set_cons_zero, List.set_cons_succ]; rfl) ?_
  refine wpAnyH_take (i := 13) (v := undef) (List.getElem?_toArray.trans rfl) (by kernel_rfl) (by kernel_rfl) (by kernel_rfl) (fun _ _ _ h => h) (.inr ⟨rfl, rfl⟩) (SinceM.self _) ?_
  refine act_normM (by simp only [Act.put, List.setIfInBounds_toArray, List.set_cons_zero, List.set_cons_succ]; rfl) ?_
  refine wpAnyH_take (i := 14) (v := undef) (List.getElem?_toArray.trans rfl) (by kernel_rfl) (by kernel_rfl) (by kernel_rfl) (fun _ _ _ h => h) (.inr ⟨rfl, rfl⟩) (SinceM.self _) ?_
  refine act_normM (by simp only [Act.put, List.setIfInBounds_toArray, List.set_cons_zero, List.set_cons_succ]; rfl) ?_
  refine wpAnyH_take (i := 15) (v := undef) (List.getElem?_toArray.trans rfl) (by kernel_rfl) (by kernel_rfl) (by kernel_rfl) (fun _ _ _ h => h) (.inr ⟨rfl, rfl⟩) (SinceM.self _) ?_
  refine act_normM (by simp only [Act.put, List.setIfInBounds_toArray, List.set_cons_zero, List.set_cons_succ]; rfl) ?_
  refine wpAnyH_take (i := 16) (v := .bool true) (List.getElem?_toArray.trans rfl) (by kernel_rfl) (by kernel_rfl) (by kernel_rfl) (fun _ _ _ h => h) (.inl ⟨rfl, fun w' hS => by simp [go_sem]⟩) (SinceM.self _) ?_
  refine act_normM (by simp only [Act.put, List.setIfInBounds_toArray, List.set_cons_zero, List.set_cons_succ]; rfl) ?_
  refine wpAnyH_done (by kernel_rfl) ?_ _
  have HB := Lib.hid hB0
  clear hB0
  go_wp2
  go_ret2
  exact .inr ⟨fun h => by have := h.1; have := HM.out; have := HLP.out; omega, rfl, HB.out⟩

set_option maxRecDepth 100000 in
set_option maxHeartbeats 4000000 in
theorem rgopen_long (key nn l m : List UInt8) (Ab Aw A B E : Option Addr) (cb cw c d f D n p : Nat) (w : World) (hD : D ≤ w.heap.size) (hk : key.length = 16) (hK : KeyIs w D Ab Aw key) (hl : nn.length = 12) (hs : Sl w D A nn)
    (ht : Sl w D B l) (hln : l.length = n) (hn : n ≤ 1048576) (hu : Sl w D E m) (hlp : m.length = p) (hp : p ≤ 1048576) (hpf : p ≤ f) (hfm : f ≤ maxLen) (hp16 : 16 ≤ p) :
    Calls Try.prog 12 #[.agg (kRow Ab Aw cb cw), .slice A 12 c, .slice B n d, .slice E p f] w (OpenG w key nn l m) := by
  have h1 := Wh.new w 27 (kRow Ab Aw cb cw)
  have hbe : Below w.heap.size w (w.alloc (.cells (kRow Ab Aw cb cw) 27)) := (Below.refl _ _).alloc (Nat.le_refl _) _
  obtain ⟨r, hr⟩ : ∃ r, r = p - 16 := ⟨_, rfl⟩
  have hri : (p : Int) - 16 = (r : Int) := by omega
  have hpr : p = r + 16 := by omega
  have hd : decide ((r : Int) < 0) = false := by rw [decide_eq_false_iff_not]; omega
  have hr20 : r ≤ 1048576 := by omega
  obtain ⟨x, hx⟩ : ∃ x, x = m.take r := ⟨_, rfl⟩
  obtain ⟨T, hT⟩ : ∃ T, T = m.drop r := ⟨_, rfl⟩
  obtain ⟨G, hG⟩ : ∃ G, G = tgL (ksL key) nn l x := ⟨_, rfl⟩
  obtain ⟨V, hV⟩ : ∃ V, V = tuL (ksL key) nn x := ⟨_, rfl⟩
  have hxl : x.length = r := by rw [hx, List.length_take]; omega
  have hTl : T.length = 16 := by rw [hT, List.length_drop]; omega
  have hGl : G.length = 16 := by rw [hG]; exact tg_len _ _ _ _
  have hVl : V.length = r := by rw [hV, tu_len, hxl]
  have hxs : Sl w D E x := by
    have h := hu.take r
    rw [← List.map_take, ← hx] at h
    exact h
  obtain ⟨b2, off2, rfl, hb2, hc2⟩ := Sl.at_ hu (by omega)
  have hts : Sl w D (some ⟨b2, off2 + r, none⟩) T := by
    have h := Sv.drop hu r
    rw [← List.map_drop, ← hT] at h
    exact h
  have HOK : Deep (OkG key nn l m ↔ G = T) := ⟨by
    unfold OkG
    rw [hlp, ← hr, ← hx, ← hT, ← hG]
    exact ⟨fun h => h.2, fun h => ⟨hp16, h⟩⟩⟩
  have HTX : Deep (V = txK key nn m) := ⟨by rw [txK, hlp, ← hr, hV, hx]⟩
  have HXL := Deep.mk hxl
  have HTL := Deep.mk hTl
  have HGL := Deep.mk hGl
  have HVL := Deep.mk hVl
  have HG0 := Deep.mk hG
  have HV0 := Deep.mk hV
  have HXS := Lib.hid hxs
  have HTS := Lib.hid hts
  have HPR := Deep.mk hpr
  have HKL := Deep.mk hk
  have HNL := Deep.mk hl
  have HLN := Deep.mk hln
  have HK := Lib.hid hK
  have HS := Lib.hid hs
  have HT := Lib.hid ht
  have hrf : r + 16 ≤ f := by omega
  have hrp : (r : Int) ≤ (p : Int) := by omega
  have hfm2 : f ≤ 9223372036854775807 := by unfold maxLen at hfm; omega
  clear hk hK hl hs ht hu hln hlp hpf hfm hr hx hT hG hV hxl hTl hGl hVl hxs hts hpr hb2 hc2 hp16
  go_enter Try.func12, Try.ntmps12
  go_upto_region 1 with (fail)
  obtain ⟨kb, hkb⟩ : ∃ b, b = w.heap.size := ⟨_, rfl⟩
  rw [← hkb] at h1 ⊢
  generalize w.alloc (.cells (kRow Ab Aw cb cw) 27) = w1 at *
  have H1 := Lib.hid h1
  have HB1 := Lib.hid hbe
  clear hkb h1 hbe
  go_upto_region 2 with (fail)
  clear hri
  have hfr : ¬ f = r := by omega
  have hr0 : (0 : Int) ≤ (r : Int) := by omega
  have hrf2 : (r : Int) ≤ (f : Int) := by omega
  have hrf3 : r ≤ f := by omega
  have hpr2 : p - r = 16 := by have := HPR.out; omega
  have hrp2 : r ≤ p := by omega
  have hB0 : Below w.heap.size w w1.drew := HB1.out.drew
  have hK0 : Wh w1.drew kb 27 (kRow Ab Aw cb cw) := H1.out
  clear HB1 H1
  refine wp_region_held_drew (S := fun w' => SinceM w1.drew w') (by kernel_rfl) (SinceM.self _) (fun _ => ?_)
  generalize w1.drew = w0 at *
  have hD0 := Nat.le_trans hD hB0.size
  have hts0 : Sl w0 D (some ⟨b2, off2 + r, none⟩) T := HTS.out.below (hB0.mono hD)
  refine wpAnyH_take (i := 0) (v := .int .i64 (r : Int)) (List.getElem?_toArray.trans rfl) (by kernel_rfl) (by kernel_rfl) (by kernel_rfl) (fun _ _ _ h => h) (.inl ⟨rfl, fun w' hS => rfl⟩) (SinceM.self _) ?_
  refine act_normM (by simp only [Act.put, List.setIfInBounds_toArray, List.set_cons_zero, List.set_cons_succ]; rfl) ?_
  refine wpAnyH_take (i := 1) (v := .bool false) (List.getElem?_toArray.trans rfl) (by kernel_rfl) (by kernel_rfl) (by kernel_rfl) (fun _ _ _ h => h) (.inl ⟨rfl, fun w' hS => by simp [go_sem, hd]⟩) (SinceM.self _) ?_
  refine act_normM (by simp only [Act.put, List.setIfInBounds_toArray, List.set_cons_zero, List.set_cons_succ]; rfl) ?_
  refine wpAnyH_take (i := 2) (v := .bool false) (List.getElem?_toArray.trans rfl) (by kernel_rfl) (by kernel_rfl) (by kernel_rfl) (fun _ _ _ h => h) (.inl ⟨rfl, fun w' hS => rfl⟩) (SinceM.self _) ?_
  refine act_normM (by simp only [Act.put, List.setIfInBounds_toArray, List.set_cons_zero, List.set_cons_succ]; rfl) ?_
  refine wpAnyH_take (i := 3) (v := .agg (kRow Ab Aw cb cw)) (List.getElem?_toArray.trans rfl) (by kernel_rfl) (by kernel_rfl) (by kernel_rfl) (fun _ _ _ h => h) (yieldsIf_load_mid (by rfl) 27 (.tmp 4) rfl kb 0 rfl [.slice Ab 256 cb, .slice Aw 176 cw] _ (fun w' hS => Wh.whole (SinceM.wh hS hK0)) Try.underlying27 rfl (info_key Ab Aw cb cw)) (SinceM.self _) ?_
  refine act_normM (by simp only [Act.put, List.setIfInBounds_toArray, List.set_cons_zero, List.set_cons_succ]; rfl) ?_
  refine wpAnyH_take (i := 4) (v := .slice A 12 c) (List.getElem?_toArray.trans rfl) (by kernel_rfl) (by kernel_rfl) (by kernel_rfl) (fun _ _ _ h => h) (.inl ⟨rfl, fun w' hS => rfl⟩) (SinceM.self _) ?_
  refine act_normM (by simp only [Act.put, List.setIfInBounds_toArray, List.set_cons_zero, List.set_cons_succ]; rfl) ?_
  refine wpAnyH_take (i := 5) (v := .slice B n d) (List.getElem?_toArray.trans rfl) (by kernel_rfl) (by kernel_rfl) (by kernel_rfl) (fun _ _ _ h => h) (.inl ⟨rfl, fun w' hS => rfl⟩) (SinceM.self _) ?_
  refine act_normM (by simp only [Act.put, List.setIfInBounds_toArray, List.set_cons_zero, List.set_cons_succ]; rfl) ?_
  refine wpAnyH_take (i := 6) (v := .slice (some ⟨b2, off2, none⟩) p f) (List.getElem?_toArray.trans rfl) (by kernel_rfl) (by kernel_rfl) (by kernel_rfl) (fun _ _ _ h => h) (.inl ⟨rfl, fun w' hS => rfl⟩) (SinceM.self _) ?_
  refine act_normM (by simp only [Act.put, List.setIfInBounds_toArray, List.set_cons_zero, List.set_cons_succ]; rfl) ?_
  refine wpAnyH_take (i := 7) (v := .int .i64 (r : Int)) (List.getElem?_toArray.trans rfl) (by kernel_rfl) (by kernel_rfl) (by kernel_rfl) (fun _ _ _ h => h) (.inl ⟨rfl, fun w' hS => rfl⟩) (SinceM.self _) ?_
  refine act_normM (by simp only [Act.put, List.setIfInBounds_toArray, List.set_cons_zero, List.set_cons_succ]; rfl) ?_
  refine wpAnyH_take (i := 8) (v := .slice (some ⟨b2, off2, none⟩) r f) (List.getElem?_toArray.trans rfl) (by kernel_rfl) (by kernel_rfl) (by kernel_rfl) (fun _ _ _ h => h) (.inl ⟨rfl, fun w' hS => by simp [go_sem, hr0, hrf2]⟩) (SinceM.self _) ?_
  refine act_normM (by simp only [Act.put, List.setIfInBounds_toArray, List.set_cons_zero, List.set_cons_succ]; rfl) ?_
  refine wpAnyH_take (i := 11) (v := .slice (some ⟨b2, off2, none⟩) p f) (List.getElem?_toArray.trans rfl) (by kernel_rfl) (by kernel_rfl) (by kernel_rfl) (fun _ _ _ h => h) (.inl ⟨rfl, fun w' hS => rfl⟩) (SinceM.self _) ?_
  refine act_normM (by simp only [Act.put, List.setIfInBounds_toArray, List.set_cons_zero, List.set_cons_succ]; rfl) ?_
  refine wpAnyH_take (i := 12) (v := .int .i64 (r : Int)) (List.getElem?_toArray.trans rfl) (by kernel_rfl) (by kernel_rfl) (by kernel_rfl) (fun _ _ _ h => h) (.inl ⟨rfl, fun w' hS => rfl⟩) (SinceM.self _) ?_
  refine act_normM (by simp only [Act.put, List.setIfInBounds_toArray, List.set_cons_zero, List.set_cons_succ]; rfl) ?_
  refine wpAnyH_take (i := 13) (v := .slice (some ⟨b2, off2 + r, none⟩) 16 (f - r)) (List.getElem?_toArray.trans rfl) (by kernel_rfl) (by kernel_rfl) (by kernel_rfl) (fun _ _ _ h => h) (.inl ⟨rfl, fun w' hS => by simp [go_sem, hr0, hrp, hfr, hpr2]⟩) (SinceM.self _) ?_
  refine act_normM (by simp only [Act.put, List.setIfInBounds_toArray, List.set_cons_zero, List.set_cons_succ]; rfl) ?_
  refine wpAnyH_take (i := 14) (v := .string (strB T)) (List.getElem?_toArray.trans rfl) (by kernel_rfl) (by kernel_rfl) (by kernel_rfl) (fun _ _ _ h => h) (yields_strM (by rfl) 24 9 5 (.tmp 27) rfl Try.underlying24 Try.underlying5 Try.underlying9 D (some ⟨b2, off2 + r, none⟩) 16 (f - r) T rfl HTL.out (fun w' hS => SinceM.sl hS hts0 hD0)) (SinceM.self _) ?_
  refine act_normM (by simp only [Act.put, List.setIfInBounds_toArray, List.set_cons_zero, List.set_cons_succ]; rfl) ?_
  refine wpAnyH_ready (rs := [9]) (by kernel_rfl) (by simp) (AllReadyH.cons (List.getElem?_toArray.trans rfl) (fun K' hK => ?_) AllReadyH.nil)
  refine wanted_goM rfl ?_
  go_simp
  have htag := rtag_any key nn l x Ab Aw A B (some ⟨b2, off2, none⟩) cb cw c d f D n r w0 hD0 HKL.out (HK.out.below (hB0.mono hD)) HNL.out (HS.out.below (hB0.mono hD)) (HT.out.below (hB0.mono hD)) HLN.out hn (HXS.out.below (hB0.mono hD)) HXL.out hr20
  rw [← HG0.out] at htag
  refine htag.mono ?_
  rintro e w4 ⟨A4, c4, rfl, h41, h42, ho4, hb4⟩
  have hS4 : SinceM w0 w4 := hb4
  have hsg : Sl w4 w4.heap.size A4 G := Sv.of_own ho4
  refine hK.out _ _ hS4 (fun _ => ?_)
  clear hK K'
  refine wpAnyH_moreM (S' := fun w' => SinceM w4 w') (fun w' h => SinceM.trans hS4 h) _ _ _ _ ?_
  refine wpAnyH_take (i := 10) (v := .string (strB G)) (List.getElem?_toArray.trans rfl) (by kernel_rfl) (by kernel_rfl) (by kernel_rfl) (fun _ _ _ h => h) (yields_strM (by rfl) 24 9 5 (.tmp 23) rfl Try.underlying24 Try.underlying5 Try.underlying9 w4.heap.size A4 16 c4 G rfl HGL.out (fun w' hS => SinceM.sl hS hsg (Nat.le_refl _))) (SinceM.self _) ?_
  refine act_normM (by simp only [Act.put, List.setIfInBounds_toArray, List.set_cons_zero, List.set_cons_succ]; rfl) ?_
  by_cases hGT : G = T
  · refine wpAnyH_take (i := 15) (v := .bool false) (List.getElem?_toArray.trans rfl) (by kernel_rfl) (by kernel_rfl) (by kernel_rfl) (fun _ _ _ h => h) (.inl ⟨rfl, fun w' hS => by simp [go_sem, hGT]⟩) (SinceM.self _) ?_
    refine act_normM (by simp only [Act.put, List.setIfInBounds_toArray, List.set_cons_zero, List.set_cons_succ]; rfl) ?_
    refine wpAnyH_take (i := 16) (v := .bool false) (List.getElem?_toArray.trans rfl) (by kernel_rfl) (by kernel_rfl) (by kernel_rfl) (fun _ _ _ h => h) (.inl ⟨rfl, fun w' hS => by simp [go_sem]⟩) (SinceM.self _) ?_
    refine act_normM (by simp only [Act.put, List.setIfInBounds_toArray, List.set_cons_zero, List.set_cons_succ]; rfl) ?_
    refine wpAnyH_done (by kernel_rfl) ?_ _
    have HB4 := Lib.hid (hB0.trans (hS4.mono hB0.size))
    have HK4 := Lib.hid (SinceM.wh hS4 hK0)
    clear hB0 hK0 hD0 hts0 hS4 hsg htag ho4 hb4 h41 h42
    have HGT := Lib.hid hGT
    clear hGT
    go_upto_region 4 with (fail)
    have hB0 : Below w.heap.size w w4.drew := HB4.out.drew
    have hK0 : Wh w4.drew kb 27 (kRow Ab Aw cb cw) := HK4.out
    clear HB4 HK4
    refine wp_region_held_drew (S := fun w' => SinceM w4.drew w') (by kernel_rfl) (SinceM.self _) (fun _ => ?_)
    generalize w4.drew = w0 at *
    have hD0 := Nat.le_trans hD hB0.size
    refine wpAnyH_take (i := 0) (v := .agg (kRow Ab Aw cb cw)) (List.getElem?_toArray.trans rfl) (by kernel_rfl) (by kernel_rfl) (by kernel_rfl) (fun _ _ _ h => h) (yieldsIf_load_mid (by rfl) 27 (.tmp 4) rfl kb 0 rfl [.slice Ab 256 cb, .slice Aw 176 cw] _ (fun w' hS => Wh.whole (SinceM.wh hS hK0)) Try.underlying27 rfl (info_key Ab Aw cb cw)) (SinceM.self _) ?_
    refine act_normM (by simp only [Act.put, List.setIfInBounds_toArray, List.set_cons_zero, List.set_cons_succ]; rfl) ?_
    refine wpAnyH_take (i := 1) (v := .slice A 12 c) (List.getElem?_toArray.trans rfl) (by kernel_rfl) (by kernel_rfl) (by kernel_rfl) (fun _ _ _ h => h) (.inl ⟨rfl, fun w' hS => rfl⟩) (SinceM.self _) ?_
    refine act_normM (by simp only [Act.put, List.setIfInBounds_toArray, List.set_cons_zero, List.set_cons_succ]; rfl) ?_
    refine wpAnyH_take (i := 2) (v := .slice (some ⟨b2, off2, none⟩) p f) (List.getElem?_toArray.trans rfl) (by kernel_rfl) (by kernel_rfl) (by kernel_rfl) (fun _ _ _ h => h) (.inl ⟨rfl, fun w' hS => rfl⟩) (SinceM.self _) ?_
    refine act_normM (by simp only [Act.put, List.setIfInBounds_toArray, List.set_cons_zero, List.set_cons_succ]; rfl) ?_
    refine wpAnyH_take (i := 3) (v := .int .i64 (r : Int)) (List.getElem?_toArray.trans rfl) (by kernel_rfl) (by kernel_rfl) (by kernel_rfl) (fun _ _ _ h => h) (.inl ⟨rfl, fun w' hS => rfl⟩) (SinceM.self _) ?_
    refine act_normM (by simp only [Act.put, List.setIfInBounds_toArray, List.set_cons_zero, List.set_cons_succ]; rfl) ?_
    refine wpAnyH_take (i := 4) (v := .slice (some ⟨b2, off2, none⟩) r f) (List.getElem?_toArray.trans rfl) (by kernel_rfl) (by kernel_rfl) (by kernel_rfl) (fun _ _ _ h => h) (.inl ⟨rfl, fun w' hS => by simp [go_sem, hr0, hrf2]⟩) (SinceM.self _) ?_
    refine act_normM (by simp only [Act.put, List.setIfInBounds_toArray, List.set_cons_zero, List.set_cons_succ]; rfl) ?_
    refine wpAnyH_ready (rs := [5]) (by kernel_rfl) (by simp) (AllReadyH.cons (List.getElem?_toArray.trans rfl) (fun K' hK => ?_) AllReadyH.nil)
    refine wanted_goM rfl ?_
    go_simp
    have hturn := rturn_any key nn x Ab Aw A (some ⟨b2, off2, none⟩) cb cw c f D r w0 hD0 HKL.out (HK.out.below (hB0.mono hD)) HNL.out (HS.out.below (hB0.mono hD)) (HXS.out.below (hB0.mono hD)) HXL.out hr20
    rw [← HV0.out] at hturn
    refine hturn.mono ?_
    rintro e w5 ⟨A5, c5, rfl, h51, h52, ho5, hb5⟩
    have hS5 : SinceM w0 w5 := hb5
    refine hK.out _ _ hS5 (fun _ => ?_)
    clear hK K'
    refine wpAnyH_take (i := 6) (v := .slice A5 r c5) (List.getElem?_toArray.trans rfl) (by kernel_rfl) (by kernel_rfl) (by kernel_rfl) (fun _ _ _ h => h) (.inl ⟨rfl, fun w' hS => rfl⟩) hS5 ?_
    refine act_normM (by simp only [Act.put, List.setIfInBounds_toArray, List.set_cons_zero, List.set_cons_succ]; rfl) ?_
    refine wpAnyH_take (i := 7) (v := .bool true) (List.getElem?_toArray.trans rfl) (by kernel_rfl) (by kernel_rfl) (by kernel_rfl) (fun _ _ _ h => h) (.inl ⟨rfl, fun w' hS => rfl⟩) hS5 ?_
    refine act_normM (by simp only [Act.put, List.setIfInBounds_toArray, List.set_cons_zero, List.set_cons_succ]; rfl) ?_
    refine wpAnyH_done (by kernel_rfl) ?_ _
    have HB5 := Lib.hid (hB0.trans (hS5.mono hB0.size))
    have HO5 := Lib.hid (own_base ho5 hB0.size)
    have H51 := Lib.hid h51
    have H52 := Lib.hid h52
    clear hB0 hK0 hD0 hturn hS5 ho5 hb5 h51 h52
    go_wp2
    go_ret2
    have hle : (txK key nn m).length = r := by rw [← HTX.out, HVL.out]
    have ho := HO5.out
    rw [HTX.out] at ho
    exact .inl ⟨HOK.out.2 HGT.out, A5, c5, by rw [hle]; rfl, by rw [hle]; exact H51.out, H52.out, by rw [hle]; exact ho, HB5.out⟩
  · have hne := strB_ne hGT
    refine wpAnyH_take (i := 15) (v := .bool true) (List.getElem?_toArray.trans rfl) (by kernel_rfl) (by kernel_rfl) (by kernel_rfl) (fun _ _ _ h => h) (.inl ⟨rfl, fun w' hS => by simp [go_sem, hne]⟩) (SinceM.self _) ?_
    refine act_normM (by simp only [Act.put, List.setIfInBounds_toArray, List.set_cons_zero, List.set_cons_succ]; rfl) ?_
    refine wpAnyH_take (i := 16) (v := .bool true) (List.getElem?_toArray.trans rfl) (by kernel_rfl) (by kernel_rfl) (by kernel_rfl) (fun _ _ _ h => h) (.inl ⟨rfl, fun w' hS => by simp [go_sem]⟩) (SinceM.self _) ?_
    refine act_normM (by simp only [Act.put, List.setIfInBounds_toArray, List.set_cons_zero, List.set_cons_succ]; rfl) ?_
    refine wpAnyH_done (by kernel_rfl) ?_ _
    have HB4 := Lib.hid (hB0.trans (hS4.mono hB0.size))
    have HK4 := Lib.hid (SinceM.wh hS4 hK0)
    clear hB0 hK0 hD0 hts0 hS4 hsg htag ho4 hb4 h41 h42
    have HGT := Lib.hid hGT
    clear hGT hne
    go_wp2
    go_ret2
    exact .inr ⟨fun h => HGT.out (HOK.out.1 h), rfl, HB4.out⟩

theorem rgopen_any (key nn l m : List UInt8) (Ab Aw A B E : Option Addr) (cb cw c d f D n p : Nat) (w : World) (hD : D ≤ w.heap.size) (hk : key.length = 16) (hK : KeyIs w D Ab Aw key) (hl : nn.length = 12) (hs : Sl w D A nn)
    (ht : Sl w D B l) (hln : l.length = n) (hn : n ≤ 1048576) (hu : Sl w D E m) (hlp : m.length = p) (hp : p ≤ 1048576) (hpf : p ≤ f) (hfm : f ≤ maxLen) :
    Calls Try.prog 12 #[.agg (kRow Ab Aw cb cw), .slice A 12 c, .slice B n d, .slice E p f] w (OpenG w key nn l m) := by
  by_cases h : p < 16
  · exact rgopen_short key nn l m Ab Aw A B E cb cw c d f D n p w hD hk hK hl hs ht hln hn hu hlp hp hpf hfm h
  · exact rgopen_long key nn l m Ab Aw A B E cb cw c d f D n p w hD hk hK hl hs ht hln hn hu hlp hp hpf hfm (by omega)
end Go.Proofs.Ytajfpbkeabdcaaa
