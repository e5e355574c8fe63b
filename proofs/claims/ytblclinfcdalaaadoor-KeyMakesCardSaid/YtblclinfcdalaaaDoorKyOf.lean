/-
  key.secretOf, key.Of.
-/
import Derived.Test.YtblclinfcdalaaaDoorKLab
import Derived.Test.YtblclinfcdalaaaDoorKyKit
namespace Go.Proofs.YtblclinfcdalaaaDoor
open Go.RowKit
set_option linter.unusedVariables false

set_option maxRecDepth 100000 in
set_option maxHeartbeats 800000 in
theorem secretOf_any (sec lab : List UInt8) (w : World) (hK : Kt w) (hsec : sec.length = 32) (hlab : lab.length ≤ 249) :
    Calls Tryd.prog 26 #[.agg (bRow sec), .string (strB lab)] w fun e w' => e = .returned (.agg (bRow (lb sec lab 32))) ∧ Below w.heap.size w w' := by
  have HSEC := Deep.mk hsec
  have HLA : Hid (∀ w' : World, Kt w' → Calls Tryd.prog 24 #[.agg (bRow sec), .string (strB lab), .slice none 0 0, .int .i64 32] w' (GaveB w' (lb sec lab 32))) :=
    Lib.hid fun w' h => label_any kW sec lab [] none 0 0 32 w' kW_len h.1 h.2 hsec rfl (Nat.le_refl _) (Nat.zero_le _) (Sv.nil _ _ _) (by omega) (by omega)
  have hol := lb32 sec lab hlab
  have hpos : 0 < (lb sec lab 32).length := by omega
  have h32 : 32 ≤ (lb sec lab 32).length := by omega
  generalize lb sec lab 32 = out at *
  generalize strB lab = S at *
  have HOL := Deep.mk hol
  obtain ⟨hbe, h2, h3, h4⟩ := made2K w (bRow sec) (bRow (List.replicate 32 0)) 22 22
  have HKW := Lib.hid (hK.since hbe)
  clear hol hsec hlab hK
  go_enter Tryd.func26, Tryd.ntmps26
  go_upto_region 1 with (refine wpList_allocZ rfl 22 rfl (bRow (List.replicate 32 0)) (zero_b32 _) ?_)
  rw [show (w.alloc (.cells (bRow sec) 22)).heap.size = w.heap.size + 1 by simp]
  generalize (w.alloc (.cells (bRow sec) 22)).alloc (.cells (bRow (List.replicate 32 0)) 22) = W at *
  obtain ⟨b, hb⟩ : ∃ b, b = w.heap.size := ⟨_, rfl⟩
  obtain ⟨r, hr⟩ : ∃ r, r = w.heap.size + 1 := ⟨_, rfl⟩
  rw [← hb] at h2
  rw [← hr] at h3
  rw [← hr, ← hb]
  have hwr : w.heap.size ≤ r := by omega
  have H2 := Lib.hid h2
  have H3 := Lib.hid h3
  have HBE := Lib.hid hbe
  clear hb hr h2 h3 hbe h4
  go_wp2_with (refine wpList_load_row rfl 22 (.tmp 2) rfl b rfl _ (bRow sec) _ _ H2.out Tryd.underlying22 rfl (info_bRow HSEC.out) ?_)
  refine (HLA.out W HKW.out).mono ?_
  rintro e w1 ⟨A1, c1, rfl, h1a, h1b, hown, hb1⟩
  obtain ⟨b1, off1, rfl, _, hlt1, hr1⟩ := own_there hown hpos
  have HR1 := Lib.hid hr1
  have H31 := Lib.hid (H3.out.below hb1 H3.out.lt)
  have HB1 := Lib.hid (HBE.out.trans (hb1.mono HBE.out.size))
  clear hown hb1 hr1 HLA H2 H3 HBE HKW h1a h1b hpos
  go_wp2_with (first
    | (refine wpList_arr rfl 22 5 32 (.tmp 7) rfl (some ⟨b1, off1, none⟩) out.length c1 rfl Tryd.underlying22 h32 ?_)
    | (refine wpList_load_mid rfl 22 (.tmp 8) rfl b1 off1 rfl (out.map cell8) _ HR1.out Tryd.underlying22 rfl (by rw [List.length_map, HOL.out]; exact info_k32) ?_)
    | (refine wpList_store_row rfl 22 (.tmp 4) (.tmp 9) rfl r (bRow out) rfl rfl _ _ H31.out (info_bRow HOL.out) (by rw [bRow_size, bRow_size, HOL.out]; rfl) (bRow_one _) ?_))
  refine bodyPost_ret (v := .agg (bRow out)) (results_cell_row Tryd.results26 _ _ r _ _ (0, 0) _ rfl (setRow_heap w1 r _ _ _ _ H31.out) Tryd.underlying22 rfl (info_bRow HOL.out)) rfl ?_
  exact ⟨rfl, below_setRow HB1.out hwr _⟩

set_option maxRecDepth 100000 in
set_option maxHeartbeats 1600000 in
theorem of_any (sec : List UInt8) (w : World) (hK : Kt w) (hsec : sec.length = 32) :
    Calls Tryd.prog 7 #[.agg (bRow sec)] w fun e w' => e = .returned (.agg (kyRow (ofK sec))) ∧ Below w.heap.size w w' := by
  have HSEC := Deep.mk hsec
  have hlab := fun (lab : List UInt8) (n : Nat) (h : lab.length ≤ 249) (w' : World) (h' : Kt w') => label_any kW sec lab [] none 0 0 (n : Int) w' kW_len h'.1 h'.2 hsec rfl (Nat.le_refl _) (Nat.zero_le _) (Sv.nil _ _ _) (by omega) (by omega)
  have HL1 : Hid (∀ w' : World, Kt w' → Calls Tryd.prog 24 #[.agg (bRow sec), .string { data := #[113, 117, 105, 99, 32, 107, 101, 121] }, .slice none 0 0, .int .i64 16] w' (GaveB w' (lb sec qKey 16))) := Lib.hid (hlab qKey 16 (by decide))
  have HL2 : Hid (∀ w' : World, Kt w' → Calls Tryd.prog 24 #[.agg (bRow sec), .string { data := #[113, 117, 105, 99, 32, 105, 118] }, .slice none 0 0, .int .i64 12] w' (GaveB w' (lb sec qIv 12))) := Lib.hid (hlab qIv 12 (by decide))
  have HL3 : Hid (∀ w' : World, Kt w' → Calls Tryd.prog 24 #[.agg (bRow sec), .string { data := #[113, 117, 105, 99, 32, 104, 112] }, .slice none 0 0, .int .i64 16] w' (GaveB w' (lb sec qHp 16))) := Lib.hid (hlab qHp 16 (by decide))
  have hok := ofK_ok hsec
  have hbt := built_ky sec _ _ _ hok.sec hok.key hok.iv hok.hp
  have e1 := hok.key
  have e2 := hok.iv
  have e3 := hok.hp
  unfold ofK at e1 e2 e3 hok hbt ⊢
  simp only at e1 e2 e3 hbt
  generalize lb sec qKey 16 = k1 at *
  generalize lb sec qIv 12 = k2 at *
  generalize lb sec qHp 16 = k3 at *
  have HE1 := Deep.mk e1
  have HE2 := Deep.mk e2
  have HE3 := Deep.mk e3
  have p1 : 0 < k1.length := by omega
  have p2 : 0 < k2.length := by omega
  have p3 : 0 < k3.length := by omega
  have q1 : 16 ≤ k1.length := by omega
  have q2 : 12 ≤ k2.length := by omega
  have q3 : 16 ≤ k3.length := by omega
  have HOK := Deep.mk hok
  have HBT := Deep.mk hbt
  obtain ⟨hbe, h2, h3, h4⟩ := made2K w (bRow sec) (kyRow kyZ) 22 29
  have HKW := Lib.hid (hK.since hbe)
  obtain ⟨R, hR⟩ : ∃ R, R = kyRow ⟨sec, k1, k2, k3, 0⟩ := ⟨_, rfl⟩
  have HR := Deep.mk hR
  obtain ⟨Z, hZ⟩ : ∃ Z, Z = kyRow kyZ := ⟨_, rfl⟩
  have hz0 := zero_ky
  rw [← hR] at HBT
  rw [← hZ] at hz0 h3 hbe h2 h4 HKW
  rw [← hR]
  have HZ0 := Deep.mk hz0
  have HZ := Deep.mk hZ
  clear e1 e2 e3 hok hbt hsec hK hlab hR hZ hz0
  go_enter Tryd.func7, Tryd.ntmps7
  go_upto_region 1 with (refine wpList_allocZ rfl 29 rfl Z (HZ0.out _) ?_)
  rw [show (w.alloc (.cells (bRow sec) 22)).heap.size = w.heap.size + 1 by simp]
  generalize (w.alloc (.cells (bRow sec) 22)).alloc (.cells Z 29) = W at *
  obtain ⟨b, hb⟩ : ∃ b, b = w.heap.size := ⟨_, rfl⟩
  obtain ⟨r, hr⟩ : ∃ r, r = w.heap.size + 1 := ⟨_, rfl⟩
  rw [← hb] at h2
  rw [← hr] at h3 h4
  rw [← hr, ← hb]
  have hwr : w.heap.size ≤ r := by omega
  have hbr : b ≠ r := by omega
  have hrW : r < W.drew.heap.size := by show r < W.heap.size; omega
  have h2' : Wh W.drew b 22 (bRow sec) := h2
  have h3' : Wh W.drew r 29 Z := h3
  have hB0 : Below w.heap.size w W.drew := hbe.drew
  have hK0 : Kt W.drew := HKW.out
  clear hb hr h2 h3 hbe h4 HKW
  refine wp_region_held_drew (S := fun w' => SinceX r W.drew w') (by kernel_rfl) (SinceX.self _ _) (fun _ => ?_)
  generalize W.drew = w0 at *
  have hr0 : w0.rangeAt b 0 (sec.map cell8) := by have := row_rangeS h2'; rwa [bRow_list] at this
  have hb0 : b < w0.heap.size := h2'.lt
  clear h2'
  refine wpAnyH_take (i := 0) (v := .agg (bRow sec)) (List.getElem?_toArray.trans rfl) (by kernel_rfl) (by kernel_rfl) (by kernel_rfl) (fun _ _ _ h => h) (yieldsIf_load_mid (by rfl) 22 (.tmp 1) rfl b 0 rfl (sec.map cell8) _ (fun w' hS => SinceX.range hS hr0 hb0 hbr) Tryd.underlying22 rfl (by rw [List.length_map, HSEC.out]; exact info_k32)) (SinceX.self _ _) ?_
  refine act_normS (by simp only [Act.put, List.setIfInBounds_toArray, List.set_cons_zero, List.set_cons_succ]; rfl) ?_
  refine wpAnyH_take (i := 1) (v := .agg (bRow sec)) (List.getElem?_toArray.trans rfl) (by kernel_rfl) (by kernel_rfl) (by kernel_rfl) (fun _ _ _ h => h) (yieldsIf_load_mid (by rfl) 22 (.tmp 1) rfl b 0 rfl (sec.map cell8) _ (fun w' hS => SinceX.range hS hr0 hb0 hbr) Tryd.underlying22 rfl (by rw [List.length_map, HSEC.out]; exact info_k32)) (SinceX.self _ _) ?_
  refine act_normS (by simp only [Act.put, List.setIfInBounds_toArray, List.set_cons_zero, List.set_cons_succ]; rfl) ?_
  refine wpAnyH_take (i := 5) (v := .agg (bRow sec)) (List.getElem?_toArray.trans rfl) (by kernel_rfl) (by kernel_rfl) (by kernel_rfl) (fun _ _ _ h => h) (yieldsIf_load_mid (by rfl) 22 (.tmp 1) rfl b 0 rfl (sec.map cell8) _ (fun w' hS => SinceX.range hS hr0 hb0 hbr) Tryd.underlying22 rfl (by rw [List.length_map, HSEC.out]; exact info_k32)) (SinceX.self _ _) ?_
  refine act_normS (by simp only [Act.put, List.setIfInBounds_toArray, List.set_cons_zero, List.set_cons_succ]; rfl) ?_
  refine wpAnyH_take (i := 9) (v := .agg (bRow sec)) (List.getElem?_toArray.trans rfl) (by kernel_rfl) (by kernel_rfl) (by kernel_rfl) (fun _ _ _ h => h) (yieldsIf_load_mid (by rfl) 22 (.tmp 1) rfl b 0 rfl (sec.map cell8) _ (fun w' hS => SinceX.range hS hr0 hb0 hbr) Tryd.underlying22 rfl (by rw [List.length_map, HSEC.out]; exact info_k32)) (SinceX.self _ _) ?_
  refine act_normS (by simp only [Act.put, List.setIfInBounds_toArray, List.set_cons_zero, List.set_cons_succ]; rfl) ?_
  refine wpAnyH_ready (rs := [2]) (by kernel_rfl) (by simp) (AllReadyH.cons (List.getElem?_toArray.trans rfl) (fun K' hK => ?_) AllReadyH.nil)
  refine wanted_goS rfl ?_
  go_simp
  refine (HL1.out w0 hK0).mono ?_
  rintro e wc1 ⟨A1, c1, rfl, ha1, hc1, ho1, hb1⟩
  obtain ⟨g1, o1, rfl, hge1, hlt1, hr1⟩ := own_there ho1 p1
  have hne1 : g1 ≠ r := by have := hrW; omega
  have hS1 : SinceX r w0 wc1 := SinceX.trans (SinceX.self _ _) (SinceX.of hb1)
  have hk1 : Kt wc1 := (hK0).since hb1
  have hB1 : Below w.heap.size w wc1 := (hB0).trans (hb1.mono (hB0).size)
  have h31 : Wh wc1 r 29 Z := (h3').below hb1 (h3').lt
  have hrw1 : r < wc1.heap.size := h31.lt
  clear ho1 hb1 ha1 hc1
  refine hK.out _ _ hS1 (fun _ => ?_)
  clear hK K'
  refine wpAnyH_moreK (S' := fun w' => SinceX r wc1 w') (fun w' h => SinceX.trans hS1 h) _ _ _ _ ?_
  refine wpAnyH_take (i := 3) (v := .pointer (some ⟨g1, o1, none⟩)) (List.getElem?_toArray.trans rfl) (by kernel_rfl) (by kernel_rfl) (by kernel_rfl) (fun _ _ _ h => h) (yields_arr (by rfl) 26 5 16 (.tmp 5) rfl (some ⟨g1, o1, none⟩) k1.length c1 rfl Tryd.underlying26 q1) (SinceX.self _ _) ?_
  refine act_normS (by simp only [Act.put, List.setIfInBounds_toArray, List.set_cons_zero, List.set_cons_succ]; rfl) ?_
  refine wpAnyH_take (i := 4) (v := .agg (bRow k1)) (List.getElem?_toArray.trans rfl) (by kernel_rfl) (by kernel_rfl) (by kernel_rfl) (fun _ _ _ h => h) (yieldsIf_load_mid (by rfl) 26 (.tmp 6) rfl g1 o1 rfl (k1.map cell8) _ (fun w' hS => SinceX.range hS hr1 hlt1 hne1) Tryd.underlying26 rfl (by rw [List.length_map, HE1.out]; exact info_k16)) (SinceX.self _ _) ?_
  refine act_normS (by simp only [Act.put, List.setIfInBounds_toArray, List.set_cons_zero, List.set_cons_succ]; rfl) ?_
  refine wpAnyH_ready (rs := [6]) (by kernel_rfl) (by simp) (AllReadyH.cons (List.getElem?_toArray.trans rfl) (fun K' hK => ?_) AllReadyH.nil)
  refine wanted_goS rfl ?_
  go_simp
  refine (HL2.out wc1 hk1).mono ?_
  rintro e wc2 ⟨A2, c2, rfl, ha2, hc2, ho2, hb2⟩
  obtain ⟨g2, o2, rfl, hge2, hlt2, hr2⟩ := own_there ho2 p2
  have hne2 : g2 ≠ r := by have := hrw1; omega
  have hS2 : SinceX r wc1 wc2 := SinceX.trans (SinceX.self _ _) (SinceX.of hb2)
  have hk2 : Kt wc2 := (hk1).since hb2
  have hB2 : Below w.heap.size w wc2 := (hB1).trans (hb2.mono (hB1).size)
  have h32 : Wh wc2 r 29 Z := (h31).below hb2 (h31).lt
  have hrw2 : r < wc2.heap.size := h32.lt
  clear ho2 hb2 ha2 hc2
  refine hK.out _ _ hS2 (fun _ => ?_)
  clear hK K'
  refine wpAnyH_moreK (S' := fun w' => SinceX r wc2 w') (fun w' h => SinceX.trans hS2 h) _ _ _ _ ?_
  refine wpAnyH_take (i := 7) (v := .pointer (some ⟨g2, o2, none⟩)) (List.getElem?_toArray.trans rfl) (by kernel_rfl) (by kernel_rfl) (by kernel_rfl) (fun _ _ _ h => h) (yields_arr (by rfl) 27 5 12 (.tmp 9) rfl (some ⟨g2, o2, none⟩) k2.length c2 rfl Tryd.underlying27 q2) (SinceX.self _ _) ?_
  refine act_normS (by simp only [Act.put, List.setIfInBounds_toArray, List.set_cons_zero, List.set_cons_succ]; rfl) ?_
  refine wpAnyH_take (i := 8) (v := .agg (bRow k2)) (List.getElem?_toArray.trans rfl) (by kernel_rfl) (by kernel_rfl) (by kernel_rfl) (fun _ _ _ h => h) (yieldsIf_load_mid (by rfl) 27 (.tmp 10) rfl g2 o2 rfl (k2.map cell8) _ (fun w' hS => SinceX.range hS hr2 hlt2 hne2) Tryd.underlying27 rfl (by rw [List.length_map, HE2.out]; exact info_k12)) (SinceX.self _ _) ?_
  refine act_normS (by simp only [Act.put, List.setIfInBounds_toArray, List.set_cons_zero, List.set_cons_succ]; rfl) ?_
  refine wpAnyH_ready (rs := [10]) (by kernel_rfl) (by simp) (AllReadyH.cons (List.getElem?_toArray.trans rfl) (fun K' hK => ?_) AllReadyH.nil)
  refine wanted_goS rfl ?_
  go_simp
  refine (HL3.out wc2 hk2).mono ?_
  rintro e wc3 ⟨A3, c3, rfl, ha3, hc3, ho3, hb3⟩
  obtain ⟨g3, o3, rfl, hge3, hlt3, hr3⟩ := own_there ho3 p3
  have hne3 : g3 ≠ r := by have := hrw2; omega
  have hS3 : SinceX r wc2 wc3 := SinceX.trans (SinceX.self _ _) (SinceX.of hb3)
  have hk3 : Kt wc3 := (hk2).since hb3
  have hB3 : Below w.heap.size w wc3 := (hB2).trans (hb3.mono (hB2).size)
  have h33 : Wh wc3 r 29 Z := (h32).below hb3 (h32).lt
  have hrw3 : r < wc3.heap.size := h33.lt
  clear ho3 hb3 ha3 hc3
  refine hK.out _ _ hS3 (fun _ => ?_)
  clear hK K'
  refine wpAnyH_moreK (S' := fun w' => SinceX r wc3 w') (fun w' h => SinceX.trans hS3 h) _ _ _ _ ?_
  refine wpAnyH_take (i := 11) (v := .pointer (some ⟨g3, o3, none⟩)) (List.getElem?_toArray.trans rfl) (by kernel_rfl) (by kernel_rfl) (by kernel_rfl) (fun _ _ _ h => h) (yields_arr (by rfl) 26 5 16 (.tmp 13) rfl (some ⟨g3, o3, none⟩) k3.length c3 rfl Tryd.underlying26 q3) (SinceX.self _ _) ?_
  refine act_normS (by simp only [Act.put, List.setIfInBounds_toArray, List.set_cons_zero, List.set_cons_succ]; rfl) ?_
  refine wpAnyH_take (i := 12) (v := .agg (bRow k3)) (List.getElem?_toArray.trans rfl) (by kernel_rfl) (by kernel_rfl) (by kernel_rfl) (fun _ _ _ h => h) (yieldsIf_load_mid (by rfl) 26 (.tmp 14) rfl g3 o3 rfl (k3.map cell8) _ (fun w' hS => SinceX.range hS hr3 hlt3 hne3) Tryd.underlying26 rfl (by rw [List.length_map, HE3.out]; exact info_k16)) (SinceX.self _ _) ?_
  refine act_normS (by simp only [Act.put, List.setIfInBounds_toArray, List.set_cons_zero, List.set_cons_succ]; rfl) ?_
  refine wpAnyH_take (i := 13) (v := .agg R) (List.getElem?_toArray.trans rfl) (by kernel_rfl) (by kernel_rfl) (by kernel_rfl) (fun _ _ _ h => h) (yields_built4K (by rfl) 29 (.tmp 3) (.tmp 7) (.tmp 11) (.tmp 15) rfl _ _ _ _ rfl rfl rfl rfl R HBT.out) (SinceX.self _ _) ?_
  refine act_normS (by simp only [Act.put, List.setIfInBounds_toArray, List.set_cons_zero, List.set_cons_succ]; rfl) ?_
  have hz4 := h33
  rw [HZ.out] at hz4
  obtain ⟨hx4, hv4⟩ := Wh.allK (ds := kyL ⟨sec, k1, k2, k3, 0⟩) hz4 (by rw [HOK.out.len, kyZ_ok.len])
  refine wpAnyH_ready (rs := [14]) (by kernel_rfl) (by simp) (AllReadyH.cons (List.getElem?_toArray.trans rfl) (fun K' hK => ?_) AllReadyH.nil)
  refine wanted_goS rfl ?_
  refine wp_store_mid 29 (.tmp 2) (.tmp 16) rfl r 0 R rfl rfl (by rw [HR.out, HOK.out.size]; exact Wh.thereK hz4 0 77 (by rw [kyZ_ok.len]; omega)) (by rw [HR.out]; exact info_kyRow HOK.out) (by rw [HR.out]; exact kyRow_one _) ?_
  rw [HR.out, kyRow_list]
  refine hK.out _ _ (SinceX.put (SinceX.self _ _) hv4) (fun _ => ?_)
  clear hK K'
  refine wpAnyH_done (by kernel_rfl) ?_ _
  go_wp2_with fail
  refine bodyPost_ret (v := .agg (kyRow ⟨sec, k1, k2, k3, 0⟩)) (results_cell_row Tryd.results7 _ _ r _ _ (0, 0) _ rfl hx4 Tryd.underlying29 rfl (info_kyRow HOK.out)) rfl ?_
  exact ⟨by rw [HR.out], below_grown (hB3) hv4 hwr (hB3).size⟩
end Go.Proofs.YtblclinfcdalaaaDoor
