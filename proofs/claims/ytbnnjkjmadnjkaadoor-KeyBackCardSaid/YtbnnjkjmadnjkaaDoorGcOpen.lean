/-
  gcm.Open. Printed by tools/gen_gcopen.py.
-/
import Derived.Laws.Cover3
import Derived.Test.YtbnnjkjmadnjkaaDoorSk39
namespace Go.Proofs.YtbnnjkjmadnjkaaDoor
open Go.RowKit
set_option linter.unusedVariables false

/-- Bytes that are a text's, sealed. -/
def OkG (key nn l m : List UInt8) : Prop := 16 ≤ m.length ∧ tgL (ksL key) nn l (m.take (m.length - 16)) = m.drop (m.length - 16)
def txK (key nn m : List UInt8) : List UInt8 := tuL (ksL key) nn (m.take (m.length - 16))
theorem tx_len (key nn m : List UInt8) : (txK key nn m).length = m.length - 16 := by rw [txK, tu_len, List.length_take]; omega
def OpenG (w : World) (key nn l m : List UInt8) (e : Ending) (w' : World) : Prop :=
  (OkG key nn l m ∧ ∃ A' c', e = .returned (.tuple #[.slice A' (txK key nn m).length c', .bool true]) ∧ (txK key nn m).length ≤ c' ∧ c' ≤ maxLen ∧ w'.ownsRow w.heap.size 5 1 (.slice A' (txK key nn m).length c') (txK key nn m).length ((txK key nn m).map cell8) ∧ Below w.heap.size w w') ∨
  (¬ OkG key nn l m ∧ e = .returned (.tuple #[.slice none 0 0, .bool false]) ∧ Below w.heap.size w w')

set_option maxRecDepth 100000 in
set_option maxHeartbeats 400000 in
theorem gcopen_short (key nn l m : List UInt8) (A B : Option Addr) (c d : Nat) (w : World) (hm : m.length < 16) :
    Calls Tryd.prog 34 #[.agg (aRow key), .agg (aRow nn), .slice A l.length c, .slice B m.length d] w (OpenG w key nn l m) := by
  have hd : decide ((m.length : Int) - 16 < 0) = true := by rw [decide_eq_true_iff]; omega
  have HM := Lib.hid hm
  go_enter Tryd.func34, Tryd.ntmps34
  go_wp2
  go_ret2
  exact .inr ⟨fun h => by have := h.1; have := HM.out; omega, rfl, (made2 w (aRow key) (aRow nn) 23 24).1⟩

set_option maxRecDepth 100000 in
set_option maxHeartbeats 1000000 in
theorem gcopen_long (key nn l m : List UInt8) (A B : Option Addr) (c d : Nat) (w : World) (hk : key.length = 16) (hn : nn.length = 12)
    (hs : Sl w w.heap.size A l) (hlc : l.length ≤ c) (hcm : c ≤ maxLen) (hl : l.length ≤ 1048576) (ht : Sl w w.heap.size B m) (hmd : m.length ≤ d) (hdm : d ≤ maxLen) (hm : m.length ≤ 1048576) (hm16 : 16 ≤ m.length) :
    Calls Tryd.prog 34 #[.agg (aRow key), .agg (aRow nn), .slice A l.length c, .slice B m.length d] w (OpenG w key nn l m) := by
  obtain ⟨i0, hi0, hz0, hz1, hz2⟩ := info_parts info8A
  have HKL := Deep.mk hk
  have HNL := Deep.mk hn
  have HS := Lib.hid hs
  have HT := Lib.hid ht
  have HCM := Lib.hid hcm
  have HDM := Lib.hid hdm
  have HLC := Lib.hid hlc
  have HMD := Lib.hid hmd
  obtain ⟨n, hn16⟩ : ∃ n, n = m.length - 16 := ⟨_, rfl⟩
  have hni : (m.length : Int) - 16 = (n : Int) := by omega
  have hmn : m.length = n + 16 := by omega
  have hd : decide ((n : Int) < 0) = false := by rw [decide_eq_false_iff_not]; omega
  have hn20 : n ≤ 1048576 := by omega
  obtain ⟨x, hx⟩ : ∃ x, x = m.take n := ⟨_, rfl⟩
  obtain ⟨T, hT⟩ : ∃ T, T = m.drop n := ⟨_, rfl⟩
  have hxl : x.length = n := by rw [hx, List.length_take]; omega
  have hTl : T.length = 16 := by rw [hT, List.length_drop]; omega
  have hxs : Sl w w.heap.size B x := by
    have h := ht.take n
    rw [← List.map_take, ← hx] at h
    exact h
  obtain ⟨b2, off2, rfl, hb2, hc2⟩ := Sl.at_ ht (by omega)
  have hTr : ∀ w', Below w.heap.size w w' → w'.rangeAt b2 (off2 + n) (T.map cell8) := fun w' hb j v hv => by
    have hj : j < T.length := by have := (List.getElem?_eq_some_iff.1 hv).1; rwa [List.length_map] at this
    rw [List.getElem?_map, List.getElem?_eq_getElem hj] at hv
    obtain rfl := Option.some.inj hv
    have hmj : m[n + j]? = some T[j] := by rw [← List.getElem?_eq_getElem hj, hT, List.getElem?_drop]
    have := hc2 (n + j) _ hmj
    rw [Nat.add_assoc]
    exact (hb.cell (p := ⟨b2, off2 + (n + j), none⟩) hb2).trans this
  have HOK : Deep (OkG key nn l m ↔ tgL (ksL key) nn l x = T) := ⟨by
    unfold OkG
    rw [← hn16, ← hx, ← hT]
    exact ⟨fun h => h.2, fun h => ⟨hm16, h⟩⟩⟩
  have HTX : Deep (tuL (ksL key) nn x = txK key nn m) := ⟨by rw [txK, ← hn16, hx]⟩
  have HXL := Deep.mk hxl
  have HTL := Deep.mk hTl
  have HXS := Lib.hid hxs
  have HTR := Lib.hid hTr
  have HMN := Deep.mk hmn
  have hnd : n + 16 ≤ d := by omega
  have hnm : (n : Int) ≤ (m.length : Int) := by omega
  have hdm2 : d ≤ 9223372036854775807 := by unfold maxLen at hdm; omega
  clear hk hn hs ht hcm hdm hlc hmd hx hT hxl hTl hxs hTr hmn hc2 hn16
  go_enter Tryd.func34, Tryd.ntmps34
  go_upto_region 4 with (fail)
  clear hni
  obtain ⟨hbe, h1, h2⟩ := made2 w (aRow key) (aRow nn) 23 24
  generalize (w.alloc (.cells (aRow key) 23)).alloc (.cells (aRow nn) 24) = W at *
  obtain ⟨ka, hka⟩ : ∃ a, a = w.heap.size := ⟨_, rfl⟩
  obtain ⟨na, hna⟩ : ∃ a, a = w.heap.size + 1 := ⟨_, rfl⟩
  rw [← hka] at h1
  rw [← hna] at h2
  rw [← hna, ← hka]
  have HBE := Lib.hid hbe
  have HKA := Lib.hid h1
  have HNA := Lib.hid h2
  clear hka hna hbe h1 h2
  go_cut [11] (fun v wx => ∃ b g, v = .pointer (some ⟨b, 0, none⟩) ∧ w.heap.size ≤ b ∧ w.heap.size ≤ g ∧ Hid (Wh wx b 85 (sRow g nn)) ∧ Hid (Wh wx g 107 (aRow (ksL key).flatten)) ∧ Hid (Below w.heap.size w wx))
  case first =>
    go_wp2_with fail
    have hW0 : Below w.heap.size w W.drew := HBE.out.drew
    have hKA : Wh W.drew ka 23 (aRow key) := HKA.out
    have hNA : Wh W.drew na 24 (aRow nn) := HNA.out
    refine wp_region_held_drew (S := fun w' => SinceM W.drew w') (by kernel_rfl) (SinceM.self _) (fun _ => ?_)
    generalize W.drew = w0 at *
    refine wpAnyH_take (i := 0) (v := .agg (aRow key)) (List.getElem?_toArray.trans rfl) (by kernel_rfl) (by kernel_rfl) (by kernel_rfl) (fun _ _ _ h => h) (yields_blk (by rfl) (.tmp 4) rfl ka 0 rfl key HKL.out (fun w' hS => (SinceM.wh hS hKA).range)) (SinceM.self _) ?_
    refine act_normM (by simp only [Act.put, List.setIfInBounds_toArray, List.set_cons_zero, List.set_cons_succ]; rfl) ?_
    refine wpAnyH_take (i := 2) (v := .agg (aRow nn)) (List.getElem?_toArray.trans rfl) (by kernel_rfl) (by kernel_rfl) (by kernel_rfl) (fun _ _ _ h => h) (yieldsIf_load_mid (by rfl) 24 (.tmp 5) rfl na 0 rfl (nn.map cell8) _ (fun w' hS => Wh.range (SinceM.wh hS hNA)) Tryd.underlying24 rfl (by rw [List.length_map, HNL.out]; exact info_n12)) (SinceM.self _) ?_
    refine act_normM (by simp only [Act.put, List.setIfInBounds_toArray, List.set_cons_zero, List.set_cons_succ]; rfl) ?_
    refine wpAnyH_ready (rs := [1, 4]) (by kernel_rfl) (by simp) (AllReadyH.cons (List.getElem?_toArray.trans rfl) (fun K' hK => ?_) (AllReadyH.cons (List.getElem?_toArray.trans rfl) (fun K' hK => ?_) AllReadyH.nil))
    · refine wanted_goM rfl ?_
      go_simp
      refine (new_any key w0 HKL.out).mono ?_
      rintro e w3 ⟨g, rfl, hge, hgw, hbw3⟩
      have hS3 : SinceM w0 w3 := hbw3
      have hg0 : w0.heap.size ≤ g := hge
      have hgl := hgw.lt
      refine hK.out _ _ hS3 (fun _ => ?_)
      clear hK K'
      refine wpAnyH_take (i := 3) (v := .agg (sRow g nn)) (List.getElem?_toArray.trans rfl) (by kernel_rfl) (by kernel_rfl) (by kernel_rfl) (fun _ _ _ h => h) (yields_built2M (by rfl) 85 0 1 (.tmp 20) (.tmp 21) rfl _ _ rfl rfl (sRow g nn) (built_stream g HNL.out)) hS3 ?_
      refine act_normM (by simp only [Act.put, List.setIfInBounds_toArray, List.set_cons_zero, List.set_cons_succ]; rfl) ?_
      refine wpAnyH_ready (rs := [4]) (by kernel_rfl) (by simp) (AllReadyH.cons (List.getElem?_toArray.trans rfl) (fun K' hK => ?_) AllReadyH.nil)
      refine wanted_goM rfl ?_
      go_simp
      rw [zeros13]
      obtain ⟨b, hbb⟩ : ∃ b, b = w3.heap.size := ⟨_, rfl⟩
      have hzw4 : Wh (w3.alloc (.cells z13.toArray 85)) b 85 z13.toArray := by rw [hbb]; exact Wh.new _ _ _
      have hnw4 : SinceM w3 (w3.alloc (.cells z13.toArray 85)) := (Below.refl _ _).alloc (Nat.le_refl _) _
      rw [← hbb]
      generalize w3.alloc (.cells z13.toArray 85) = w4 at *
      have hS4 := SinceM.trans hS3 hnw4
      have hb0 : w0.heap.size ≤ b := by rw [hbb]; exact hS3.size
      have hgb : g < b := by rw [hbb]; exact hgl
      have hgE := SinceM.wh hnw4 hgw
      clear hbb
      refine hK.out _ _ hS4 (fun _ => ?_)
      clear hK K'
      obtain ⟨hs1, hs2⟩ := Wh.allL (ds := sL g nn) hzw4 (by simp [sL, z13, HNL.out])
      have hSE : SinceM w0 (w4.setCells b 0 (sL g nn)) := SinceM.put hS4 hs2 hb0
      refine wpAnyH_ready (rs := [5]) (by kernel_rfl) (by simp) (AllReadyH.cons (List.getElem?_toArray.trans rfl) (fun K' hK => ?_) AllReadyH.nil)
      refine wanted_goM rfl ?_
      refine wp_store_mid 85 (.tmp 11) (.tmp 22) rfl b 0 (sRow g nn) rfl rfl (by rw [sRow_size HNL.out]; exact Wh.thereL hzw4 0 13 (by simp [z13])) (info_sRow HNL.out) (sRow_one _ _) ?_
      rw [show (sRow g nn).toList = sL g nn from rfl]
      refine hK.out _ _ hSE (fun _ => ?_)
      clear hK K'
      refine wpAnyH_done (by kernel_rfl) ?_ _
      go_wp2_with fail
      go_meet
      exact ⟨b, g, rfl, Nat.le_trans hW0.size hb0, Nat.le_trans hW0.size hg0, Lib.hid hs1, Lib.hid (hgE.grown hs2 (by intro e; have := Option.some.inj e; omega)), Lib.hid (hW0.trans (hSE.mono hW0.size))⟩
    · refine wanted_goM rfl ?_
      go_simp
      rw [zeros13]
      obtain ⟨b, hbb⟩ : ∃ b, b = w0.heap.size := ⟨_, rfl⟩
      have hzw3 : Wh (w0.alloc (.cells z13.toArray 85)) b 85 z13.toArray := by rw [hbb]; exact Wh.new _ _ _
      have hnw3 : SinceM w0 (w0.alloc (.cells z13.toArray 85)) := (Below.refl _ _).alloc (Nat.le_refl _) _
      rw [← hbb]
      generalize w0.alloc (.cells z13.toArray 85) = w3 at *
      have hS3 : SinceM w0 w3 := hnw3
      have hb0 : w0.heap.size ≤ b := by rw [hbb]; exact Nat.le_refl _
      have hbl := hzw3.lt
      clear hbb
      refine hK.out _ _ hS3 (fun _ => ?_)
      clear hK K'
      refine wpAnyH_ready (rs := [1]) (by kernel_rfl) (by simp) (AllReadyH.cons (List.getElem?_toArray.trans rfl) (fun K' hK => ?_) AllReadyH.nil)
      refine wanted_goM rfl ?_
      go_simp
      refine (new_any key w3 HKL.out).mono ?_
      rintro e w4 ⟨g, rfl, hge, hgw, hbw4⟩
      have hS4 : SinceM w0 w4 := SinceM.trans hS3 hbw4
      have hg0 : w0.heap.size ≤ g := Nat.le_trans hS3.size hge
      have hgb : b < g := Nat.lt_of_lt_of_le hbl hge
      have hz4 := SinceM.wh hbw4 hzw3
      have hgE := hgw
      refine hK.out _ _ hS4 (fun _ => ?_)
      clear hK K'
      refine wpAnyH_take (i := 3) (v := .agg (sRow g nn)) (List.getElem?_toArray.trans rfl) (by kernel_rfl) (by kernel_rfl) (by kernel_rfl) (fun _ _ _ h => h) (yields_built2M (by rfl) 85 0 1 (.tmp 20) (.tmp 21) rfl _ _ rfl rfl (sRow g nn) (built_stream g HNL.out)) hS4 ?_
      refine act_normM (by simp only [Act.put, List.setIfInBounds_toArray, List.set_cons_zero, List.set_cons_succ]; rfl) ?_
      obtain ⟨hs1, hs2⟩ := Wh.allL (ds := sL g nn) hz4 (by simp [sL, z13, HNL.out])
      have hSE : SinceM w0 (w4.setCells b 0 (sL g nn)) := SinceM.put hS4 hs2 hb0
      refine wpAnyH_ready (rs := [5]) (by kernel_rfl) (by simp) (AllReadyH.cons (List.getElem?_toArray.trans rfl) (fun K' hK => ?_) AllReadyH.nil)
      refine wanted_goM rfl ?_
      refine wp_store_mid 85 (.tmp 11) (.tmp 22) rfl b 0 (sRow g nn) rfl rfl (by rw [sRow_size HNL.out]; exact Wh.thereL hz4 0 13 (by simp [z13])) (info_sRow HNL.out) (sRow_one _ _) ?_
      rw [show (sRow g nn).toList = sL g nn from rfl]
      refine hK.out _ _ hSE (fun _ => ?_)
      clear hK K'
      refine wpAnyH_done (by kernel_rfl) ?_ _
      go_wp2_with fail
      go_meet
      exact ⟨b, g, rfl, Nat.le_trans hW0.size hb0, Nat.le_trans hW0.size hg0, Lib.hid hs1, Lib.hid (hgE.grown hs2 (by intro e; have := Option.some.inj e; omega)), Lib.hid (hW0.trans (hSE.mono hW0.size))⟩
  case rest =>
    obtain ⟨b, g, rfl, hwb, hwg, HSB, HGC, HB⟩ := hcut
    clear HBE HKA HNA
    go_wp2_with fail
    have hdn : ¬ d = n := by omega
    have hn0 : (0 : Int) ≤ (n : Int) := by omega
    have hnd2 : (n : Int) ≤ (d : Int) := by omega
    have hmn2 : m.length - n = 16 := by have := HMN.out; omega
    have hnm2 : n ≤ m.length := by omega
    have hnd3 : n ≤ d := by omega
    have HAA := Lib.hid (fun w' => run_arrayAt (P := Tryd.prog) w' 23 5 16 (some ⟨b2, off2 + n, none⟩) 16 (d - n) Tryd.underlying23 (Nat.le_refl _))
    have hB0 : Below w.heap.size w wc.drew := HB.out.drew
    have hSB0 : Wh wc.drew b 85 (sRow g nn) := HSB.out
    have hGC0 : Wh wc.drew g 107 (aRow (ksL key).flatten) := HGC.out
    refine wp_region_held_drew (S := fun w' => SinceM wc.drew w') (by kernel_rfl) (SinceM.self _) (fun _ => ?_)
    generalize wc.drew = w0 at *
    refine wpAnyH_take (i := 0) (v := .slice (some ⟨b2, off2, none⟩) m.length d) (List.getElem?_toArray.trans rfl) (by kernel_rfl) (by kernel_rfl) (by kernel_rfl) (fun _ _ _ h => h) (.inl ⟨rfl, fun w' hS => rfl⟩) (SinceM.self _) ?_
    refine act_normM (by simp only [Act.put, List.setIfInBounds_toArray, List.set_cons_zero, List.set_cons_succ]; rfl) ?_
    refine wpAnyH_take (i := 1) (v := .int .i64 (n : Int)) (List.getElem?_toArray.trans rfl) (by kernel_rfl) (by kernel_rfl) (by kernel_rfl) (fun _ _ _ h => h) (.inl ⟨rfl, fun w' hS => rfl⟩) (SinceM.self _) ?_
    refine act_normM (by simp only [Act.put, List.setIfInBounds_toArray, List.set_cons_zero, List.set_cons_succ]; rfl) ?_
    refine wpAnyH_take (i := 2) (v := .slice (some ⟨b2, off2, none⟩) n d) (List.getElem?_toArray.trans rfl) (by kernel_rfl) (by kernel_rfl) (by kernel_rfl) (fun _ _ _ h => h) (.inl ⟨rfl, fun w' hS => by simp [go_sem, hn0, hnd2]⟩) (SinceM.self _) ?_
    refine act_normM (by simp only [Act.put, List.setIfInBounds_toArray, List.set_cons_zero, List.set_cons_succ]; rfl) ?_
    refine wpAnyH_take (i := 3) (v := .slice (some ⟨b2, off2, none⟩) m.length d) (List.getElem?_toArray.trans rfl) (by kernel_rfl) (by kernel_rfl) (by kernel_rfl) (fun _ _ _ h => h) (.inl ⟨rfl, fun w' hS => rfl⟩) (SinceM.self _) ?_
    refine act_normM (by simp only [Act.put, List.setIfInBounds_toArray, List.set_cons_zero, List.set_cons_succ]; rfl) ?_
    refine wpAnyH_take (i := 4) (v := .int .i64 (n : Int)) (List.getElem?_toArray.trans rfl) (by kernel_rfl) (by kernel_rfl) (by kernel_rfl) (fun _ _ _ h => h) (.inl ⟨rfl, fun w' hS => rfl⟩) (SinceM.self _) ?_
    refine act_normM (by simp only [Act.put, List.setIfInBounds_toArray, List.set_cons_zero, List.set_cons_succ]; rfl) ?_
    refine wpAnyH_take (i := 5) (v := .slice (some ⟨b2, off2 + n, none⟩) 16 (d - n)) (List.getElem?_toArray.trans rfl) (by kernel_rfl) (by kernel_rfl) (by kernel_rfl) (fun _ _ _ h => h) (.inl ⟨rfl, fun w' hS => by simp [go_sem, hn0, hnm, hdn, hmn2]⟩) (SinceM.self _) ?_
    refine act_normM (by simp only [Act.put, List.setIfInBounds_toArray, List.set_cons_zero, List.set_cons_succ]; rfl) ?_
    refine wpAnyH_take (i := 6) (v := .pointer (some ⟨b2, off2 + n, none⟩)) (List.getElem?_toArray.trans rfl) (by kernel_rfl) (by kernel_rfl) (by kernel_rfl) (fun _ _ _ h => h) (.inl ⟨rfl, fun w' hS => by simp [go_sem, HAA.out]⟩) (SinceM.self _) ?_
    refine act_normM (by simp only [Act.put, List.setIfInBounds_toArray, List.set_cons_zero, List.set_cons_succ]; rfl) ?_
    refine wpAnyH_take (i := 7) (v := .agg (aRow T)) (List.getElem?_toArray.trans rfl) (by kernel_rfl) (by kernel_rfl) (by kernel_rfl) (fun _ _ _ h => h) (yields_blk (by rfl) (.tmp 29) rfl b2 (off2 + n) rfl T HTL.out (fun w' hS => HTR.out w' (hB0.trans (hS.mono hB0.size)))) (SinceM.self _) ?_
    refine act_normM (by simp only [Act.put, List.setIfInBounds_toArray, List.set_cons_zero, List.set_cons_succ]; rfl) ?_
    refine wpAnyH_ready (rs := [8]) (by kernel_rfl) (by simp) (AllReadyH.cons (List.getElem?_toArray.trans rfl) (fun K' hK => ?_) AllReadyH.nil)
    refine wanted_goM rfl ?_
    go_simp
    rw [zeros16]
    obtain ⟨tb, htb⟩ : ∃ b, b = w0.heap.size := ⟨_, rfl⟩
    have hz3 : Wh (w0.alloc (.cells (aRow (List.replicate 16 0)) 23)) tb 23 (aRow (List.replicate 16 0)) := by rw [htb]; exact Wh.new _ _ _
    have hS3 : SinceM w0 (w0.alloc (.cells (aRow (List.replicate 16 0)) 23)) := (Below.refl _ _).alloc (Nat.le_refl _) _
    have hb3 : w0.heap.size ≤ tb := by rw [htb]; exact Nat.le_refl _
    rw [← htb]
    generalize w0.alloc (.cells (aRow (List.replicate 16 0)) 23) = w3 at *
    clear htb
    refine hK.out _ _ hS3 (fun _ => ?_)
    clear hK K'
    refine wpAnyH_take (i := 9) (v := .slice (some ⟨b2, off2, none⟩) n d) (List.getElem?_toArray.trans rfl) (by kernel_rfl) (by kernel_rfl) (by kernel_rfl) (fun _ _ _ h => h) (.inl ⟨rfl, fun w' hS => rfl⟩) hS3 ?_
    refine act_normM (by simp only [Act.put, List.setIfInBounds_toArray, List.set_cons_zero, List.set_cons_succ]; rfl) ?_
    obtain ⟨hs1, hs2⟩ := Wh.over hz3 rfl HTL.out
    have hS4 : SinceM w0 (w3.setCells tb 0 (T.map cell8)) := SinceM.put hS3 hs2 hb3
    refine wpAnyH_ready (rs := [10]) (by kernel_rfl) (by simp) (AllReadyH.cons (List.getElem?_toArray.trans rfl) (fun K' hK => ?_) AllReadyH.nil)
    refine wanted_goM rfl ?_
    refine wp_store_mid 23 (.tmp 13) (.tmp 30) rfl tb 0 (aRow T) rfl rfl (by rw [aRow_size, HTL.out]; exact Wh.there hz3 rfl) (info_aRow HTL.out) (aRow_one _) ?_
    rw [aRow_list]
    refine hK.out _ _ hS4 (fun _ => ?_)
    clear hK K'
    refine wpAnyH_done (by kernel_rfl) ?_ _
    have hSB4 := SinceM.wh hS4 hSB0
    have hGC4 := SinceM.wh hS4 hGC0
    have hB4 := hB0.trans (hS4.mono hB0.size)
    have HT4 := Lib.hid hs1
    have HSB4 := Lib.hid hSB4
    have HGC4 := Lib.hid hGC4
    have HB4 := Lib.hid hB4
    clear hs1 hs2 hS3 hz3 hb3 hS4 hSB0 hGC0 hB0 hSB4 hGC4 hB4 HSB HGC HB HAA
    simp only [Act.put]
    generalize w3.setCells tb 0 (T.map cell8) = w4 at *
    go_wp2_with fail
    obtain ⟨G, hGe⟩ : ∃ G, G = tgL (ksL key) nn l x := ⟨_, rfl⟩
    have hGl : G.length = 16 := by rw [hGe]; exact tg_len _ _ _ _
    have HEQ := Lib.hid (fun w' => eq_blks G T hGl HTL.out w')
    have HGL := Deep.mk hGl
    have htag := fun w' h1 h2 h3 => tag_any g (ksL key) nn l x A (some ⟨b2, off2, none⟩) c d w' (ksL_b HKL.out) h1 HNL.out h2 HLC.out HCM.out hl h3 (by rw [HXL.out]; omega) HDM.out (by rw [HXL.out]; omega)
    rw [← hGe, HXL.out] at htag
    have HTAG := Lib.hid htag
    have hOK := HOK.out
    rw [← hGe] at hOK
    have HOK2 := Deep.mk hOK
    clear hGe hGl htag hOK HOK
    have hB0 : Below w.heap.size w w4.drew := HB4.out.drew
    have hSB0 : Wh w4.drew b 85 (sRow g nn) := HSB4.out
    have hGC0 : Wh w4.drew g 107 (aRow (ksL key).flatten) := HGC4.out
    have hT0 : Wh w4.drew tb 23 (aRow T) := HT4.out
    clear HB4 HSB4 HGC4 HT4
    refine wp_region_held_drew (S := fun w' => SinceM w4.drew w') (by kernel_rfl) (SinceM.self _) (fun _ => ?_)
    generalize w4.drew = w0 at *
    refine wpAnyH_take (i := 0) (v := .agg (sRow g nn)) (List.getElem?_toArray.trans rfl) (by kernel_rfl) (by kernel_rfl) (by kernel_rfl) (fun _ _ _ h => h) (yieldsIf_load_mid (by rfl) 85 (.tmp 11) rfl b 0 rfl (sL g nn) _ (fun w' hS => Wh.whole (SinceM.wh hS hSB0)) Tryd.underlying85 rfl (info_sL HNL.out)) (SinceM.self _) ?_
    refine act_normM (by simp only [Act.put, List.setIfInBounds_toArray, List.set_cons_zero, List.set_cons_succ]; rfl) ?_
    refine wpAnyH_take (i := 1) (v := .slice A l.length c) (List.getElem?_toArray.trans rfl) (by kernel_rfl) (by kernel_rfl) (by kernel_rfl) (fun _ _ _ h => h) (.inl ⟨rfl, fun w' hS => rfl⟩) (SinceM.self _) ?_
    refine act_normM (by simp only [Act.put, List.setIfInBounds_toArray, List.set_cons_zero, List.set_cons_succ]; rfl) ?_
    refine wpAnyH_take (i := 2) (v := .slice (some ⟨b2, off2, none⟩) n d) (List.getElem?_toArray.trans rfl) (by kernel_rfl) (by kernel_rfl) (by kernel_rfl) (fun _ _ _ h => h) (.inl ⟨rfl, fun w' hS => rfl⟩) (SinceM.self _) ?_
    refine act_normM (by simp only [Act.put, List.setIfInBounds_toArray, List.set_cons_zero, List.set_cons_succ]; rfl) ?_
    refine wpAnyH_take (i := 4) (v := .agg (aRow T)) (List.getElem?_toArray.trans rfl) (by kernel_rfl) (by kernel_rfl) (by kernel_rfl) (fun _ _ _ h => h) (yields_blk (by rfl) (.tmp 13) rfl tb 0 rfl T HTL.out (fun w' hS => (SinceM.wh hS hT0).range)) (SinceM.self _) ?_
    refine act_normM (by simp only [Act.put, List.setIfInBounds_toArray, List.set_cons_zero, List.set_cons_succ]; rfl) ?_
    refine wpAnyH_ready (rs := [3]) (by kernel_rfl) (by simp) (AllReadyH.cons (List.getElem?_toArray.trans rfl) (fun K' hK => ?_) AllReadyH.nil)
    refine wanted_goM rfl ?_
    go_simp
    refine (HTAG.out w0 hGC0 ((HS.out.below hB0).keep hB0.size (fun _ _ => rfl)) ((HXS.out.below hB0).keep hB0.size (fun _ _ => rfl))).mono ?_
    rintro e w5 ⟨rfl, hb5⟩
    have hS5 : SinceM w0 w5 := hb5
    refine hK.out _ _ hS5 (fun _ => ?_)
    clear hK K'
    by_cases hGT : G = T
    · have hE := HEQ.out
      rw [decide_eq_true hGT] at hE
      have HE := Lib.hid hE
      clear hE
      refine wpAnyH_take (i := 5) (v := .bool false) (List.getElem?_toArray.trans rfl) (by kernel_rfl) (by kernel_rfl) (by kernel_rfl) (fun _ _ _ h => h) (.inl ⟨rfl, fun w' hS => by simp [go_sem, HE.out]⟩) hS5 ?_
      refine act_normM (by simp only [Act.put, List.setIfInBounds_toArray, List.set_cons_zero, List.set_cons_succ]; rfl) ?_
      refine wpAnyH_done (by kernel_rfl) ?_ _
      have hSB5 := SinceM.wh hS5 hSB0
      have hGC5 := SinceM.wh hS5 hGC0
      have hB5 := hB0.trans (hS5.mono hB0.size)
      have HSB := Lib.hid hSB5
      have HGC := Lib.hid hGC5
      have HB := Lib.hid hB5
      have HGT := Lib.hid hGT
      clear hb5 hS5 hSB0 hGC0 hB0 hT0 hSB5 hGC5 hB5 HEQ HE HTAG hGT
      obtain ⟨wc, hwc⟩ : ∃ wc, wc = w5 := ⟨_, rfl⟩
      rw [← hwc] at HSB HGC HB ⊢
      clear hwc
      have HXN : Hid (x.length ≤ d) := Lib.hid (by rw [HXL.out]; omega)
      have hxm : x.length ≤ 1048576 := by rw [HXL.out]; omega
      have HXM := Lib.hid hxm
      clear hxm
      go_wp2_with fail
      have hB0 : Below w.heap.size w wc.drew := HB.out.drew
      have hSB0 : Wh wc.drew b 85 (sRow g nn) := HSB.out
      have hGC0 : Wh wc.drew g 107 (aRow (ksL key).flatten) := HGC.out
      refine wp_region_held_drew (S := fun w' => SinceM wc.drew w') (by kernel_rfl) (SinceM.self _) (fun _ => ?_)
      generalize wc.drew = w0 at *
      refine wpAnyH_take (i := 0) (v := .agg (sRow g nn)) (List.getElem?_toArray.trans rfl) (by kernel_rfl) (by kernel_rfl) (by kernel_rfl) (fun _ _ _ h => h) (yieldsIf_load_mid (by rfl) 85 (.tmp 11) rfl b 0 rfl (sL g nn) _ (fun w' hS => Wh.whole (SinceM.wh hS hSB0)) Tryd.underlying85 rfl (info_sL HNL.out)) (SinceM.self _) ?_
      refine act_normM (by simp only [Act.put, List.setIfInBounds_toArray, List.set_cons_zero, List.set_cons_succ]; rfl) ?_
      refine wpAnyH_take (i := 1) (v := .int .i64 (n : Int)) (List.getElem?_toArray.trans rfl) (by kernel_rfl) (by kernel_rfl) (by kernel_rfl) (fun _ _ _ h => h) (.inl ⟨rfl, fun w' hS => rfl⟩) (SinceM.self _) ?_
      refine act_normM (by simp only [Act.put, List.setIfInBounds_toArray, List.set_cons_zero, List.set_cons_succ]; rfl) ?_
      refine wpAnyH_take (i := 3) (v := .slice (some ⟨b2, off2, none⟩) n d) (List.getElem?_toArray.trans rfl) (by kernel_rfl) (by kernel_rfl) (by kernel_rfl) (fun _ _ _ h => h) (.inl ⟨rfl, fun w' hS => rfl⟩) (SinceM.self _) ?_
      refine act_normM (by simp only [Act.put, List.setIfInBounds_toArray, List.set_cons_zero, List.set_cons_succ]; rfl) ?_
      refine wpAnyH_ready (rs := [2]) (by kernel_rfl) (by simp) (AllReadyH.cons (List.getElem?_toArray.trans rfl) (fun K' hK => ?_) AllReadyH.nil)
      refine wanted_goM rfl ?_
      refine wp_make_mnM (.const (.int .i64 0)) (.tmp 38) 28 rfl 5 i0 _ Tryd.underlying28 hi0 hz0 hz1 rfl .i64 .i64 0 (n : Int) 0 n rfl rfl rfl (by omega) (Nat.zero_le _) (by rw [hz2]; omega) (by omega) ?_
      obtain ⟨bs, hbs⟩ : ∃ bs, bs = w0.heap.size := ⟨_, rfl⟩
      have hal : Below w0.heap.size w0 (w0.alloc (.cells (List.replicate n (Value.int .u8 0)).toArray 5)) := (Below.refl _ _).alloc (Nat.le_refl _) _
      have hown : (w0.alloc (.cells (List.replicate n (Value.int .u8 0)).toArray 5)).ownsRow bs 5 1 (.slice (some ⟨bs, 0, none⟩) 0 n) 0 [] := by
        rw [hbs]
        exact own_of_wh (Wh.new w0 5 _) _ 0 n (Nat.le_refl _) (by simp) (Nat.zero_le _) (by unfold maxLen; omega)
      have hbsz : bs ≤ (w0.alloc (.cells (List.replicate n (Value.int .u8 0)).toArray 5)).heap.size := by rw [hbs]; simp
      have hwbs : w.heap.size ≤ bs := by rw [hbs]; exact hB0.size
      have hgbs : g < bs := by rw [hbs]; exact hGC0.lt
      rw [← hbs]
      rw [← hbs] at hal
      generalize w0.alloc (.cells (List.replicate n (Value.int .u8 0)).toArray 5) = w3 at *
      have hS3 : SinceM w0 w3 := by rw [hbs] at hal; exact hal
      have hSL3 : Sl w3 bs (some ⟨b2, off2, none⟩) x := (HXS.out.below (hB0.trans (hal.mono hwbs))).keep hwbs (fun _ _ => rfl)
      have hGC3 := SinceM.wh hS3 hGC0
      have HBS := Lib.hid hbs
      clear hbs
      refine hK.out _ _ hS3 (fun _ => ?_)
      clear hK K'
      refine wpAnyH_ready (rs := [4]) (by kernel_rfl) (by simp) (AllReadyH.cons (List.getElem?_toArray.trans rfl) (fun K' hK => ?_) AllReadyH.nil)
      refine wanted_goM rfl ?_
      go_simp
      have hturn := gturn_any g (ksL key) nn x (some ⟨b2, off2, none⟩) d bs _ w3 (ksL_b HKL.out) hGC3 hgbs HNL.out hSL3 HXN.out HDM.out HXM.out hbsz hown
      rw [HXL.out] at hturn
      refine hturn.mono ?_
      clear hturn
      rintro e w5 ⟨A5, c5, rfl, h51, h52, ho5, hb5⟩
      have hS5 : SinceM w0 w5 := by
        have h := HBS.out
        have hx := hal.trans hb5
        rw [h] at hx
        exact hx
      refine hK.out _ _ hS5 (fun _ => ?_)
      clear hK K'
      refine wpAnyH_take (i := 5) (v := .slice A5 n c5) (List.getElem?_toArray.trans rfl) (by kernel_rfl) (by kernel_rfl) (by kernel_rfl) (fun _ _ _ h => h) (.inl ⟨rfl, fun w' hS => rfl⟩) hS5 ?_
      refine act_normM (by simp only [Act.put, List.setIfInBounds_toArray, List.set_cons_zero, List.set_cons_succ]; rfl) ?_
      refine wpAnyH_take (i := 6) (v := .bool true) (List.getElem?_toArray.trans rfl) (by kernel_rfl) (by kernel_rfl) (by kernel_rfl) (fun _ _ _ h => h) (.inl ⟨rfl, fun w' hS => rfl⟩) hS5 ?_
      refine act_normM (by simp only [Act.put, List.setIfInBounds_toArray, List.set_cons_zero, List.set_cons_succ]; rfl) ?_
      refine wpAnyH_done (by kernel_rfl) ?_ _
      have hB5 := hB0.trans (hS5.mono hB0.size)
      have HB5 := Lib.hid hB5
      have HO5 := Lib.hid (own_base ho5 hwbs)
      have H51 := Lib.hid h51
      have H52 := Lib.hid h52
      clear hB0 hSB0 hGC0 hal hown hbsz hwbs hgbs hS3 hSL3 hGC3 HBS h51 h52 ho5 hb5 hS5 hB5 HSB HGC HB
      go_wp2
      go_ret2
      have hle : (txK key nn m).length = n := by rw [← HTX.out, tu_len, HXL.out]
      have ho := HO5.out
      rw [HTX.out] at ho
      exact .inl ⟨HOK2.out.2 HGT.out, A5, c5, by rw [hle]; rfl, by rw [hle]; exact H51.out, H52.out, by rw [hle]; exact ho, HB5.out⟩
    · have hE := HEQ.out
      rw [decide_eq_false hGT] at hE
      have HE := Lib.hid hE
      clear hE
      refine wpAnyH_take (i := 5) (v := .bool true) (List.getElem?_toArray.trans rfl) (by kernel_rfl) (by kernel_rfl) (by kernel_rfl) (fun _ _ _ h => h) (.inl ⟨rfl, fun w' hS => by simp [go_sem, HE.out]⟩) hS5 ?_
      refine act_normM (by simp only [Act.put, List.setIfInBounds_toArray, List.set_cons_zero, List.set_cons_succ]; rfl) ?_
      refine wpAnyH_done (by kernel_rfl) ?_ _
      have hSB5 := SinceM.wh hS5 hSB0
      have hGC5 := SinceM.wh hS5 hGC0
      have hB5 := hB0.trans (hS5.mono hB0.size)
      have HSB := Lib.hid hSB5
      have HGC := Lib.hid hGC5
      have HB := Lib.hid hB5
      have HGT := Lib.hid hGT
      clear hb5 hS5 hSB0 hGC0 hB0 hT0 hSB5 hGC5 hB5 HEQ HE HTAG hGT
      go_wp2
      go_ret2
      exact .inr ⟨fun h => HGT.out (HOK2.out.1 h), rfl, HB.out⟩

theorem gcopen_any (key nn l m : List UInt8) (A B : Option Addr) (c d : Nat) (w : World) (hk : key.length = 16) (hn : nn.length = 12)
    (hs : Sl w w.heap.size A l) (hlc : l.length ≤ c) (hcm : c ≤ maxLen) (hl : l.length ≤ 1048576) (ht : Sl w w.heap.size B m) (hmd : m.length ≤ d) (hdm : d ≤ maxLen) (hm : m.length ≤ 1048576) :
    Calls Tryd.prog 34 #[.agg (aRow key), .agg (aRow nn), .slice A l.length c, .slice B m.length d] w (OpenG w key nn l m) := by
  by_cases h : m.length < 16
  · exact gcopen_short key nn l m A B c d w h
  · exact gcopen_long key nn l m A B c d w hk hn hs hlc hcm hl ht hmd hdm hm (by omega)
end Go.Proofs.YtbnnjkjmadnjkaaDoor
