/-
  key.secretOf, key.Of.
  key.Next.
-/
import Derived.Test.YtbnnjkjmadnjkaaDoorKLab
import Derived.Test.YtbnnjkjmadnjkaaDoorSk16
namespace Go.Proofs.YtbnnjkjmadnjkaaDoor
section
open Go.RowKit
set_option linter.unusedVariables false

set_option maxRecDepth 100000 in
set_option maxHeartbeats 800000 in
theorem secretOf_any (sec lab : List UInt8) (w : World) (hK : Kt w) (hsec : sec.length = 32) (hlab : lab.length ≤ 249) :
    Calls Tryd.prog 26 #[.agg (bRow sec), .string (strB lab)] w fun e w' => e = .returned (.agg (bRow (lb sec lab 32))) ∧ Below w.heap.size w w' := by
  have HSEC := Deep.mk hsec
  have HLA : Hid (∀ w' : World, Kt w' → Calls Tryd.prog 51 #[.agg (bRow sec), .string (strB lab), .slice none 0 0, .int .i64 32] w' (GaveB w' (lb sec lab 32))) :=
    Lib.hid fun w' h => label_any kW sec lab [] none 0 0 32 w' kW_len h.1 h.2 hsec rfl (Nat.le_refl _) (Nat.zero_le _) (Sv.nil _ _ _) (by omega) (by omega)
  have hol := lb32 sec lab hlab
  have hpos : 0 < (lb sec lab 32).length := by omega
  have h32 : 32 ≤ (lb sec lab 32).length := by omega
  generalize lb sec lab 32 = out at *
  generalize strB lab = S at *
  have HOL := Deep.mk hol
  obtain ⟨hbe, h2, h3, h4⟩ := made2K w (bRow sec) (bRow (List.replicate 32 0)) 22 22
  have HKW := Lib.hid (hK.since hbe)
  clear hol hsec hlab hK
  go_enter Tryd.func26, Tryd.ntmps26
  go_upto_region 1 with (refine wpList_allocZ rfl 22 rfl (bRow (List.replicate 32 0)) (zero_b32 _) ?_)
  rw [show (w.alloc (.cells (bRow sec) 22)).heap.size = w.heap.size + 1 by simp]
  generalize (w.alloc (.cells (bRow sec) 22)).alloc (.cells (bRow (List.replicate 32 0)) 22) = W at *
  obtain ⟨b, hb⟩ : ∃ b, b = w.heap.size := ⟨_, rfl⟩
  obtain ⟨r, hr⟩ : ∃ r, r = w.heap.size + 1 := ⟨_, rfl⟩
  rw [← hb] at h2
  rw [← hr] at h3
  rw [← hr, ← hb]
  have hwr : w.heap.size ≤ r := by omega
  have H2 := Lib.hid h2
  have H3 := Lib.hid h3
  have HBE := Lib.hid hbe
  clear hb hr h2 h3 hbe h4
  go_wp2_with (refine wpList_load_row rfl 22 (.tmp 2) rfl b rfl _ (bRow sec) _ _ H2.out Tryd.underlying22 rfl (info_bRow HSEC.out) ?_)
  refine (HLA.out W HKW.out).mono ?_
  rintro e w1 ⟨A1, c1, rfl, h1a, h1b, hown, hb1⟩
  obtain ⟨b1, off1, rfl, _, hlt1, hr1⟩ := own_there hown hpos
  have HR1 := Lib.hid hr1
  have H31 := Lib.hid (H3.out.below hb1 H3.out.lt)
  have HB1 := Lib.hid (HBE.out.trans (hb1.mono HBE.out.size))
  clear hown hb1 hr1 HLA H2 H3 HBE HKW h1a h1b hpos
  go_wp2_with (first
    | (refine wpList_arr rfl 22 5 32 (.tmp 7) rfl (some ⟨b1, off1, none⟩) out.length c1 rfl Tryd.underlying22 h32 ?_)
    | (refine wpList_load_mid rfl 22 (.tmp 8) rfl b1 off1 rfl (out.map cell8) _ HR1.out Tryd.underlying22 rfl (by rw [List.length_map, HOL.out]; exact info_k32) ?_)
    | (refine wpList_store_row rfl 22 (.tmp 4) (.tmp 9) rfl r (bRow out) rfl rfl _ _ H31.out (info_bRow HOL.out) (by rw [bRow_size, bRow_size, HOL.out]; rfl) (bRow_one _) ?_))
  refine bodyPost_ret (v := .agg (bRow out)) (results_cell_row Tryd.results26 _ _ r _ _ (0, 0) _ rfl (setRow_heap w1 r _ _ _ _ H31.out) Tryd.underlying22 rfl (info_bRow HOL.out)) rfl ?_
  exact ⟨rfl, below_setRow HB1.out hwr _⟩

set_option maxRecDepth 100000 in
set_option maxHeartbeats 1600000 in
theorem of_any (sec : List UInt8) (w : World) (hK : Kt w) (hsec : sec.length = 32) :
    Calls Tryd.prog 25 #[.agg (bRow sec)] w fun e w' => e = .returned (.agg (kyRow (ofK sec))) ∧ Below w.heap.size w w' := by
  have HSEC := Deep.mk hsec
  have hlab := fun (lab : List UInt8) (n : Nat) (h : lab.length ≤ 249) (w' : World) (h' : Kt w') => label_any kW sec lab [] none 0 0 (n : Int) w' kW_len h'.1 h'.2 hsec rfl (Nat.le_refl _) (Nat.zero_le _) (Sv.nil _ _ _) (by omega) (by omega)
  have HL1 : Hid (∀ w' : World, Kt w' → Calls Tryd.prog 51 #[.agg (bRow sec), .string { data := #[113, 117, 105, 99, 32, 107, 101, 121] }, .slice none 0 0, .int .i64 16] w' (GaveB w' (lb sec qKey 16))) := Lib.hid (hlab qKey 16 (by decide))
  have HL2 : Hid (∀ w' : World, Kt w' → Calls Tryd.prog 51 #[.agg (bRow sec), .string { data := #[113, 117, 105, 99, 32, 105, 118] }, .slice none 0 0, .int .i64 12] w' (GaveB w' (lb sec qIv 12))) := Lib.hid (hlab qIv 12 (by decide))
  have HL3 : Hid (∀ w' : World, Kt w' → Calls Tryd.prog 51 #[.agg (bRow sec), .string { data := #[113, 117, 105, 99, 32, 104, 112] }, .slice none 0 0, .int .i64 16] w' (GaveB w' (lb sec qHp 16))) := Lib.hid (hlab qHp 16 (by decide))
  have hok := ofK_ok hsec
  have hbt := built_ky sec _ _ _ hok.sec hok.key hok.iv hok.hp
  have e1 := hok.key
  have e2 := hok.iv
  have e3 := hok.hp
  unfold ofK at e1 e2 e3 hok hbt ⊢
  simp only at e1 e2 e3 hbt
  generalize lb sec qKey 16 = k1 at *
  generalize lb sec qIv 12 = k2 at *
  generalize lb sec qHp 16 = k3 at *
  have HE1 := Deep.mk e1
  have HE2 := Deep.mk e2
  have HE3 := Deep.mk e3
  have p1 : 0 < k1.length := by omega
  have p2 : 0 < k2.length := by omega
  have p3 : 0 < k3.length := by omega
  have q1 : 16 ≤ k1.length := by omega
  have q2 : 12 ≤ k2.length := by omega
  have q3 : 16 ≤ k3.length := by omega
  have HOK := Deep.mk hok
  have HBT := Deep.mk hbt
  obtain ⟨hbe, h2, h3, h4⟩ := made2K w (bRow sec) (kyRow kyZ) 22 27
  have HKW := Lib.hid (hK.since hbe)
  obtain ⟨R, hR⟩ : ∃ R, R = kyRow ⟨sec, k1, k2, k3, 0⟩ := ⟨_, rfl⟩
  have HR := Deep.mk hR
  obtain ⟨Z, hZ⟩ : ∃ Z, Z = kyRow kyZ := ⟨_, rfl⟩
  have hz0 := zero_ky
  rw [← hR] at HBT
  rw [← hZ] at hz0 h3 hbe h2 h4 HKW
  rw [← hR]
  have HZ0 := Deep.mk hz0
  have HZ := Deep.mk hZ
  clear e1 e2 e3 hok hbt hsec hK hlab hR hZ hz0
  go_enter Tryd.func25, Tryd.ntmps25
  go_upto_region 1 with (refine wpList_allocZ rfl 27 rfl Z (HZ0.out _) ?_)
  rw [show (w.alloc (.cells (bRow sec) 22)).heap.size = w.heap.size + 1 by simp]
  generalize (w.alloc (.cells (bRow sec) 22)).alloc (.cells Z 27) = W at *
  obtain ⟨b, hb⟩ : ∃ b, b = w.heap.size := ⟨_, rfl⟩
  obtain ⟨r, hr⟩ : ∃ r, r = w.heap.size + 1 := ⟨_, rfl⟩
  rw [← hb] at h2
  rw [← hr] at h3 h4
  rw [← hr, ← hb]
  have hwr : w.heap.size ≤ r := by omega
  have hbr : b ≠ r := by omega
  have hrW : r < W.drew.heap.size := by show r < W.heap.size; omega
  have h2' : Wh W.drew b 22 (bRow sec) := h2
  have h3' : Wh W.drew r 27 Z := h3
  have hB0 : Below w.heap.size w W.drew := hbe.drew
  have hK0 : Kt W.drew := HKW.out
  clear hb hr h2 h3 hbe h4 HKW
  refine wp_region_held_drew (S := fun w' => SinceX r W.drew w') (by kernel_rfl) (SinceX.self _ _) (fun _ => ?_)
  generalize W.drew = w0 at *
  have hr0 : w0.rangeAt b 0 (sec.map cell8) := by have := row_rangeS h2'; rwa [bRow_list] at this
  have hb0 : b < w0.heap.size := h2'.lt
  clear h2'
  refine wpAnyH_take (i := 0) (v := .agg (bRow sec)) (List.getElem?_toArray.trans rfl) (by kernel_rfl) (by kernel_rfl) (by kernel_rfl) (fun _ _ _ h => h) (yieldsIf_load_mid (by rfl) 22 (.tmp 1) rfl b 0 rfl (sec.map cell8) _ (fun w' hS => SinceX.range hS hr0 hb0 hbr) Tryd.underlying22 rfl (by rw [List.length_map, HSEC.out]; exact info_k32)) (SinceX.self _ _) ?_
  refine act_normS (by simp only [Act.put, List.setIfInBounds_toArray, List.set_cons_zero, List.set_cons_succ]; rfl) ?_
  refine wpAnyH_take (i := 1) (v := .agg (bRow sec)) (List.getElem?_toArray.trans rfl) (by kernel_rfl) (by kernel_rfl) (by kernel_rfl) (fun _ _ _ h => h) (yieldsIf_load_mid (by rfl) 22 (.tmp 1) rfl b 0 rfl (sec.map cell8) _ (fun w' hS => SinceX.range hS hr0 hb0 hbr) Tryd.underlying22 rfl (by rw [List.length_map, HSEC.out]; exact info_k32)) (SinceX.self _ _) ?_
  refine act_normS (by simp only [Act.put, List.setIfInBounds_toArray, List.set_cons_zero, List.set_cons_succ]; rfl) ?_
  refine wpAnyH_take (i := 5) (v := .agg (bRow sec)) (List.getElem?_toArray.trans rfl) (by kernel_rfl) (by kernel_rfl) (by kernel_rfl) (fun _ _ _ h => h) (yieldsIf_load_mid (by rfl) 22 (.tmp 1) rfl b 0 rfl (sec.map cell8) _ (fun w' hS => SinceX.range hS hr0 hb0 hbr) Tryd.underlying22 rfl (by rw [List.length_map, HSEC.out]; exact info_k32)) (SinceX.self _ _) ?_
  refine act_normS (by simp only [Act.put, List.setIfInBounds_toArray, List.set_cons_zero, List.set_cons_succ]; rfl) ?_
  refine wpAnyH_take (i := 9) (v := .agg (bRow sec)) (List.getElem?_toArray.trans rfl) (by kernel_rfl) (by kernel_rfl) (by kernel_rfl) (fun _ _ _ h => h) (yieldsIf_load_mid (by rfl) 22 (.tmp 1) rfl b 0 rfl (sec.map cell8) _ (fun w' hS => SinceX.range hS hr0 hb0 hbr) Tryd.underlying22 rfl (by rw [List.length_map, HSEC.out]; exact info_k32)) (SinceX.self _ _) ?_
  refine act_normS (by simp only [Act.put, List.setIfInBounds_toArray, List.set_cons_zero, List.set_cons_succ]; rfl) ?_
  refine wpAnyH_ready (rs := [2]) (by kernel_rfl) (by simp) (AllReadyH.cons (List.getElem?_toArray.trans rfl) (fun K' hK => ?_) AllReadyH.nil)
  refine wanted_goS rfl ?_
  go_simp
  refine (HL1.out w0 hK0).mono ?_
  rintro e wc1 ⟨A1, c1, rfl, ha1, hc1, ho1, hb1⟩
  obtain ⟨g1, o1, rfl, hge1, hlt1, hr1⟩ := own_there ho1 p1
  have hne1 : g1 ≠ r := by have := hrW; omega
  have hS1 : SinceX r w0 wc1 := SinceX.trans (SinceX.self _ _) (SinceX.of hb1)
  have hk1 : Kt wc1 := (hK0).since hb1
  have hB1 : Below w.heap.size w wc1 := (hB0).trans (hb1.mono (hB0).size)
  have h31 : Wh wc1 r 27 Z := (h3').below hb1 (h3').lt
  have hrw1 : r < wc1.heap.size := h31.lt
  clear ho1 hb1 ha1 hc1
  refine hK.out _ _ hS1 (fun _ => ?_)
  clear hK K'
  refine wpAnyH_moreK (S' := fun w' => SinceX r wc1 w') (fun w' h => SinceX.trans hS1 h) _ _ _ _ ?_
  refine wpAnyH_take (i := 3) (v := .pointer (some ⟨g1, o1, none⟩)) (List.getElem?_toArray.trans rfl) (by kernel_rfl) (by kernel_rfl) (by kernel_rfl) (fun _ _ _ h => h) (yields_arr (by rfl) 23 5 16 (.tmp 5) rfl (some ⟨g1, o1, none⟩) k1.length c1 rfl Tryd.underlying23 q1) (SinceX.self _ _) ?_
  refine act_normS (by simp only [Act.put, List.setIfInBounds_toArray, List.set_cons_zero, List.set_cons_succ]; rfl) ?_
  refine wpAnyH_take (i := 4) (v := .agg (bRow k1)) (List.getElem?_toArray.trans rfl) (by kernel_rfl) (by kernel_rfl) (by kernel_rfl) (fun _ _ _ h => h) (yieldsIf_load_mid (by rfl) 23 (.tmp 6) rfl g1 o1 rfl (k1.map cell8) _ (fun w' hS => SinceX.range hS hr1 hlt1 hne1) Tryd.underlying23 rfl (by rw [List.length_map, HE1.out]; exact info_k16)) (SinceX.self _ _) ?_
  refine act_normS (by simp only [Act.put, List.setIfInBounds_toArray, List.set_cons_zero, List.set_cons_succ]; rfl) ?_
  refine wpAnyH_ready (rs := [6]) (by kernel_rfl) (by simp) (AllReadyH.cons (List.getElem?_toArray.trans rfl) (fun K' hK => ?_) AllReadyH.nil)
  refine wanted_goS rfl ?_
  go_simp
  refine (HL2.out wc1 hk1).mono ?_
  rintro e wc2 ⟨A2, c2, rfl, ha2, hc2, ho2, hb2⟩
  obtain ⟨g2, o2, rfl, hge2, hlt2, hr2⟩ := own_there ho2 p2
  have hne2 : g2 ≠ r := by have := hrw1; omega
  have hS2 : SinceX r wc1 wc2 := SinceX.trans (SinceX.self _ _) (SinceX.of hb2)
  have hk2 : Kt wc2 := (hk1).since hb2
  have hB2 : Below w.heap.size w wc2 := (hB1).trans (hb2.mono (hB1).size)
  have h32 : Wh wc2 r 27 Z := (h31).below hb2 (h31).lt
  have hrw2 : r < wc2.heap.size := h32.lt
  clear ho2 hb2 ha2 hc2
  refine hK.out _ _ hS2 (fun _ => ?_)
  clear hK K'
  refine wpAnyH_moreK (S' := fun w' => SinceX r wc2 w') (fun w' h => SinceX.trans hS2 h) _ _ _ _ ?_
  refine wpAnyH_take (i := 7) (v := .pointer (some ⟨g2, o2, none⟩)) (List.getElem?_toArray.trans rfl) (by kernel_rfl) (by kernel_rfl) (by kernel_rfl) (fun _ _ _ h => h) (yields_arr (by rfl) 24 5 12 (.tmp 9) rfl (some ⟨g2, o2, none⟩) k2.length c2 rfl Tryd.underlying24 q2) (SinceX.self _ _) ?_
  refine act_normS (by simp only [Act.put, List.setIfInBounds_toArray, List.set_cons_zero, List.set_cons_succ]; rfl) ?_
  refine wpAnyH_take (i := 8) (v := .agg (bRow k2)) (List.getElem?_toArray.trans rfl) (by kernel_rfl) (by kernel_rfl) (by kernel_rfl) (fun _ _ _ h => h) (yieldsIf_load_mid (by rfl) 24 (.tmp 10) rfl g2 o2 rfl (k2.map cell8) _ (fun w' hS => SinceX.range hS hr2 hlt2 hne2) Tryd.underlying24 rfl (by rw [List.length_map, HE2.out]; exact info_k12)) (SinceX.self _ _) ?_
  refine act_normS (by simp only [Act.put, List.setIfInBounds_toArray, List.set_cons_zero, List.set_cons_succ]; rfl) ?_
  refine wpAnyH_ready (rs := [10]) (by kernel_rfl) (by simp) (AllReadyH.cons (List.getElem?_toArray.trans rfl) (fun K' hK => ?_) AllReadyH.nil)
  refine wanted_goS rfl ?_
  go_simp
  refine (HL3.out wc2 hk2).mono ?_
  rintro e wc3 ⟨A3, c3, rfl, ha3, hc3, ho3, hb3⟩
  obtain ⟨g3, o3, rfl, hge3, hlt3, hr3⟩ := own_there ho3 p3
  have hne3 : g3 ≠ r := by have := hrw2; omega
  have hS3 : SinceX r wc2 wc3 := SinceX.trans (SinceX.self _ _) (SinceX.of hb3)
  have hk3 : Kt wc3 := (hk2).since hb3
  have hB3 : Below w.heap.size w wc3 := (hB2).trans (hb3.mono (hB2).size)
  have h33 : Wh wc3 r 27 Z := (h32).below hb3 (h32).lt
  have hrw3 : r < wc3.heap.size := h33.lt
  clear ho3 hb3 ha3 hc3
  refine hK.out _ _ hS3 (fun _ => ?_)
  clear hK K'
  refine wpAnyH_moreK (S' := fun w' => SinceX r wc3 w') (fun w' h => SinceX.trans hS3 h) _ _ _ _ ?_
  refine wpAnyH_take (i := 11) (v := .pointer (some ⟨g3, o3, none⟩)) (List.getElem?_toArray.trans rfl) (by kernel_rfl) (by kernel_rfl) (by kernel_rfl) (fun _ _ _ h => h) (yields_arr (by rfl) 23 5 16 (.tmp 13) rfl (some ⟨g3, o3, none⟩) k3.length c3 rfl Tryd.underlying23 q3) (SinceX.self _ _) ?_
  refine act_normS (by simp only [Act.put, List.setIfInBounds_toArray, List.set_cons_zero, List.set_cons_succ]; rfl) ?_
  refine wpAnyH_take (i := 12) (v := .agg (bRow k3)) (List.getElem?_toArray.trans rfl) (by kernel_rfl) (by kernel_rfl) (by kernel_rfl) (fun _ _ _ h => h) (yieldsIf_load_mid (by rfl) 23 (.tmp 14) rfl g3 o3 rfl (k3.map cell8) _ (fun w' hS => SinceX.range hS hr3 hlt3 hne3) Tryd.underlying23 rfl (by rw [List.length_map, HE3.out]; exact info_k16)) (SinceX.self _ _) ?_
  refine act_normS (by simp only [Act.put, List.setIfInBounds_toArray, List.set_cons_zero, List.set_cons_succ]; rfl) ?_
  refine wpAnyH_take (i := 13) (v := .agg R) (List.getElem?_toArray.trans rfl) (by kernel_rfl) (by kernel_rfl) (by kernel_rfl) (fun _ _ _ h => h) (yields_built4K (by rfl) 27 (.tmp 3) (.tmp 7) (.tmp 11) (.tmp 15) rfl _ _ _ _ rfl rfl rfl rfl R HBT.out) (SinceX.self _ _) ?_
  refine act_normS (by simp only [Act.put, List.setIfInBounds_toArray, List.set_cons_zero, List.set_cons_succ]; rfl) ?_
  have hz4 := h33
  rw [HZ.out] at hz4
  obtain ⟨hx4, hv4⟩ := Wh.allK (ds := kyL ⟨sec, k1, k2, k3, 0⟩) hz4 (by rw [HOK.out.len, kyZ_ok.len])
  refine wpAnyH_ready (rs := [14]) (by kernel_rfl) (by simp) (AllReadyH.cons (List.getElem?_toArray.trans rfl) (fun K' hK => ?_) AllReadyH.nil)
  refine wanted_goS rfl ?_
  refine wp_store_mid 27 (.tmp 2) (.tmp 16) rfl r 0 R rfl rfl (by rw [HR.out, HOK.out.size]; exact Wh.thereK hz4 0 77 (by rw [kyZ_ok.len]; omega)) (by rw [HR.out]; exact info_kyRow HOK.out) (by rw [HR.out]; exact kyRow_one _) ?_
  rw [HR.out, kyRow_list]
  refine hK.out _ _ (SinceX.put (SinceX.self _ _) hv4) (fun _ => ?_)
  clear hK K'
  refine wpAnyH_done (by kernel_rfl) ?_ _
  go_wp2_with fail
  refine bodyPost_ret (v := .agg (kyRow ⟨sec, k1, k2, k3, 0⟩)) (results_cell_row Tryd.results25 _ _ r _ _ (0, 0) _ rfl hx4 Tryd.underlying27 rfl (info_kyRow HOK.out)) rfl ?_
  exact ⟨by rw [HR.out], below_grown (hB3) hv4 hwr (hB3).size⟩
end

section
open Go.RowKit
set_option linter.unusedVariables false

/-- Keys in memory with another Hp, another phase. -/
theorem ky_hp {w : World} {g : Nat} {t : TypeId} {k : KS} {x : List UInt8} (h : Wh w g t (kyRow k)) (hk : k.Ok) (hx : x.length = 16) : Wh (w.setCells g 60 (x.map cell8)) g t (kyRow { k with hp := x }) ∧ w.grownBy (w.setCells g 60 (x.map cell8)) (some g) := by
  obtain ⟨h1, h2⟩ := Wh.putsK (x.map cell8) 60 (kyL k) w h (by rw [hk.len, List.length_map, hx]; omega)
  rw [List.length_map, hx, hk.put3 hx] at h1
  exact ⟨h1, h2⟩
theorem ky_ph {w : World} {g : Nat} {t : TypeId} {k : KS} (h : Wh w g t (kyRow k)) (hk : k.Ok) (n : Nat) : Wh (w.setCell ⟨g, 76, none⟩ (.int .u64 (n : Int))) g t (kyRow { k with ph := n }) ∧ w.grownBy (w.setCell ⟨g, 76, none⟩ (.int .u64 (n : Int))) (some g) := by
  have h1 := h.put 76 (.int .u64 (n : Int))
  rw [hk.put4] at h1
  exact ⟨h1, grown_set w g 76 _⟩
theorem ky_cell {w : World} {g : Nat} {t : TypeId} {k : KS} (h : Wh w g t (kyRow k)) (hk : k.Ok) : w.cell? ⟨g, 76, none⟩ = some (.int .u64 (k.ph : Int)) := by
  rw [h.cell, kyRow, List.getElem?_toArray]
  exact hk.f4
theorem ky_sec {w : World} {g : Nat} {t : TypeId} {k : KS} (h : Wh w g t (kyRow k)) (hk : k.Ok) : w.rangeAt g 0 (k.sec.map cell8) := Wh.partK h 0 _ hk.f0
theorem ky_key {w : World} {g : Nat} {t : TypeId} {k : KS} (h : Wh w g t (kyRow k)) (hk : k.Ok) : w.rangeAt g 32 (k.key.map cell8) := Wh.partK h 32 _ hk.f1
theorem ky_iv {w : World} {g : Nat} {t : TypeId} {k : KS} (h : Wh w g t (kyRow k)) (hk : k.Ok) : w.rangeAt g 48 (k.iv.map cell8) := Wh.partK h 48 _ hk.f2
theorem ky_hpr {w : World} {g : Nat} {t : TypeId} {k : KS} (h : Wh w g t (kyRow k)) (hk : k.Ok) : w.rangeAt g 60 (k.hp.map cell8) := Wh.partK h 60 _ hk.f3
theorem ky_there3 {w : World} {g : Nat} {t : TypeId} {k : KS} (h : Wh w g t (kyRow k)) (hk : k.Ok) : w.there g 60 16 := Wh.thereK h 60 16 (by rw [hk.len]; omega)

set_option maxRecDepth 100000 in
set_option maxHeartbeats 1600000 in
theorem next_any (k : KS) (w : World) (hK : Kt w) (hk : k.Ok) :
    Calls Tryd.prog 9 #[.agg (kyRow k)] w fun e w' => e = .returned (.agg (kyRow (nextK k))) ∧ Below w.heap.size w w' := by
  have HK := Deep.mk hk
  have HSO : Hid (∀ w' : World, Kt w' → Calls Tryd.prog 26 #[.agg (bRow k.sec), .string { data := #[113, 117, 105, 99, 32, 107, 117] }] w' fun e w2 => e = .returned (.agg (bRow (lb k.sec qKu 32))) ∧ Below w'.heap.size w' w2) :=
    Lib.hid fun w' h => secretOf_any k.sec qKu w' h hk.sec (by decide)
  have hol := lb32 k.sec qKu (by decide)
  have hnx : nextK k = { ofK (lb k.sec qKu 32) with hp := k.hp, ph := (k.ph + 1) % 18446744073709551616 } := rfl
  generalize lb k.sec qKu 32 = s1 at *
  have HOF : Hid (∀ w' : World, Kt w' → Calls Tryd.prog 25 #[.agg (bRow s1)] w' fun e w2 => e = .returned (.agg (kyRow (ofK s1))) ∧ Below w'.heap.size w' w2) :=
    Lib.hid fun w' h => of_any s1 w' h hol
  have hok := ofK_ok hol
  generalize ofK s1 = K1 at *
  have HOK := Deep.mk hok
  have HNX := Deep.mk hnx
  obtain ⟨hbe, h2, h3, h4⟩ := made2K w (kyRow k) (kyRow kyZ) 27 27
  have HKW := Lib.hid (hK.since hbe)
  obtain ⟨Z, hZ⟩ : ∃ Z, Z = kyRow kyZ := ⟨_, rfl⟩
  have hz0 := zero_ky
  rw [← hZ] at hz0 h3 hbe h2 h4 HKW
  have HZ0 := Deep.mk hz0
  have HZS : Deep (Z.size = 77) := ⟨by rw [hZ, kyZ_ok.size]⟩
  have hph := hk.ph
  obtain ⟨ph, hphe⟩ : ∃ ph, ph = k.ph := ⟨_, rfl⟩
  have HPH := Deep.mk hphe
  rw [← hphe] at hph
  clear hz0 hZ hnx hok hol hK hk hphe
  go_enter Tryd.func9, Tryd.ntmps9
  go_upto_region 1 with (refine wpList_allocZ rfl 27 rfl Z (HZ0.out _) ?_)
  rw [show (w.alloc (.cells (kyRow k) 27)).heap.size = w.heap.size + 1 by simp]
  generalize (w.alloc (.cells (kyRow k) 27)).alloc (.cells Z 27) = W at *
  obtain ⟨b, hb⟩ : ∃ b, b = w.heap.size := ⟨_, rfl⟩
  obtain ⟨r, hr⟩ : ∃ r, r = w.heap.size + 1 := ⟨_, rfl⟩
  rw [← hb] at h2
  rw [← hr] at h3 h4
  rw [← hr, ← hb]
  have hwr : w.heap.size ≤ r := by omega
  have hbr : b < r := by omega
  have H2 := Lib.hid h2
  have H3 := Lib.hid h3
  have HBE := Lib.hid hbe
  clear hb hr h2 h3 hbe h4
  go_wp2_with (refine wpList_load_mid rfl 22 (.tmp 4) rfl b 0 rfl (k.sec.map cell8) _ (ky_sec H2.out HK.out) Tryd.underlying22 rfl (by rw [List.length_map, HK.out.sec]; exact info_k32) ?_)
  refine (HSO.out W HKW.out).mono ?_
  rintro e w1 ⟨rfl, hb1⟩
  have HK1 := Lib.hid (HKW.out.since hb1)
  have H21 := Lib.hid (H2.out.below hb1 H2.out.lt)
  have H31 := Lib.hid (H3.out.below hb1 H3.out.lt)
  have HB1 := Lib.hid (HBE.out.trans (hb1.mono HBE.out.size))
  clear hb1 H2 H3 HBE HKW HSO
  go_wp2_with fail
  refine (HOF.out w1 HK1.out).mono ?_
  rintro e w2 ⟨rfl, hb2⟩
  have H22 := Lib.hid (H21.out.below hb2 H21.out.lt)
  have H32 := Lib.hid (H31.out.below hb2 H31.out.lt)
  have HB2 := Lib.hid (HB1.out.trans (hb2.mono HB1.out.size))
  clear hb2 H21 H31 HB1 HK1 HOF
  go_upto_region 2 with (first
    | (refine wpList_allocZ rfl 27 rfl Z (HZ0.out _) ?_)
    | (refine wpList_store_row rfl 27 (.tmp 3) (.tmp 7) rfl w2.heap.size (kyRow K1) rfl rfl _ _ (heap_alloc_new w2 _) (info_kyRow HOK.out) (by rw [HZS.out, HOK.out.size]) (kyRow_one _) ?_; rw [World.setRow_alloc_new]))
  obtain ⟨n, hn⟩ : ∃ n, n = w2.heap.size := ⟨_, rfl⟩
  have h5 := Wh.new w2 27 (kyRow K1)
  have hb3 := HB2.out.alloc HB2.out.size (.cells (kyRow K1) 27)
  have h23 := H22.out.alloc (.cells (kyRow K1) 27)
  have h33 := H32.out.alloc (.cells (kyRow K1) 27)
  have hrn : r < n := by rw [hn]; exact H32.out.lt
  rw [← hn] at h5
  rw [← hn]
  generalize w2.alloc (.cells (kyRow K1) 27) = w3 at *
  obtain ⟨h6, hg6⟩ := ky_hp h5 HOK.out HK.out.hp
  have hb4 := below_grown hb3 hg6 (by omega) hb3.size
  have h24 := h23.grown hg6 (by intro e; have := Option.some.inj e; omega)
  have h34 := h33.grown hg6 (by intro e; have := Option.some.inj e; omega)
  have HR3 := Lib.hid (ky_hpr h23 HK.out)
  have HT3 := Lib.hid (ky_there3 h5 HOK.out)
  have H6 := Lib.hid h6
  have H24 := Lib.hid h24
  have H34 := Lib.hid h34
  have HB4 := Lib.hid hb4
  have HHP := Deep.mk HK.out.hp
  clear hn h5 hb3 h23 h33 h6 hg6 hb4 h24 h34 H22 H32 HB2
  go_upto_region 3 with (first
    | (refine wpList_load_mid rfl 23 (.tmp 8) rfl b 60 rfl (k.hp.map cell8) _ HR3.out Tryd.underlying23 rfl (by rw [List.length_map, HHP.out]; exact info_k16) ?_)
    | (refine wpList_store_mid rfl 23 (.tmp 10) (.tmp 9) rfl n 60 (bRow k.hp) rfl rfl (by rw [bRow_size, HHP.out]; exact HT3.out) (by rw [bRow_size, HHP.out]; exact info_k16) (bRow_one _) ?_; rw [bRow_list]))
  generalize w3.setCells n 60 (k.hp.map cell8) = w4 at *
  have hok4 : KS.Ok { K1 with hp := k.hp } := ⟨HOK.out.sec, HOK.out.key, HOK.out.iv, HK.out.hp, HOK.out.ph⟩
  obtain ⟨h7, hg7⟩ := ky_ph H6.out hok4 ((ph + 1) % 18446744073709551616)
  have hc1 : w4.cell? ⟨b, 76, none⟩ = some (.int .u64 (ph : Int)) := by rw [HPH.out]; exact ky_cell H24.out HK.out
  obtain ⟨p1, hc2⟩ : ∃ p1 : Nat, w4.cell? ⟨n, 76, none⟩ = some (.int .u64 (p1 : Int)) := ⟨_, ky_cell H6.out hok4⟩
  have hf2 : w4.frozen? ⟨n, 76, none⟩ = false := H6.out.frozen 76
  have hb5 := below_grown HB4.out hg7 (by omega) HB4.out.size
  have h35 := H34.out.grown hg7 (by intro e; have := Option.some.inj e; omega)
  have hok5 : KS.Ok { K1 with hp := k.hp, ph := (ph + 1) % 18446744073709551616 } := ⟨HOK.out.sec, HOK.out.key, HOK.out.iv, HK.out.hp, Nat.mod_lt _ (by decide)⟩
  have hwrap : IntKind.u64.wrap ((ph : Int) + 1) = (((ph + 1) % 18446744073709551616 : Nat) : Int) := by
    rw [IntKind.wrap_u64]
    omega
  have HOK5 := Deep.mk hok5
  have H7 := Lib.hid h7
  have HB5 := Lib.hid hb5
  have H35 := Lib.hid h35
  have HNX2 : Deep (nextK k = { K1 with hp := k.hp, ph := (ph + 1) % 18446744073709551616 }) := ⟨by rw [HPH.out]; exact HNX.out⟩
  clear hok5 h7 hg7 hb5 h35 hok4 H6 H24 H34 HB4 HR3 HT3
  generalize hK5 : ({ K1 with hp := k.hp, ph := (ph + 1) % 18446744073709551616 } : KS) = K5 at *
  clear hK5
  obtain ⟨q, hq⟩ : ∃ q, q = (ph + 1) % 18446744073709551616 := ⟨_, rfl⟩
  rw [← hq] at hwrap H7 HB5 H35
  clear hq
  go_upto_region 4 with (fail)
  clear hc1 hc2 hf2 hwrap
  generalize w4.setCell ⟨n, 76, none⟩ (.int .u64 (q : Int)) = w5 at *
  go_wp2_with (first
    | (refine wpList_load_row rfl 27 (.tmp 3) rfl n rfl _ (kyRow K5) _ _ H7.out Tryd.underlying27 rfl (info_kyRow HOK5.out) ?_)
    | (refine wpList_store_row rfl 27 (.tmp 2) (.tmp 15) rfl r (kyRow K5) rfl rfl _ _ H35.out (info_kyRow HOK5.out) (by rw [HZS.out, HOK5.out.size]) (kyRow_one _) ?_))
  refine bodyPost_ret (v := .agg (kyRow K5)) (results_cell_row Tryd.results9 _ _ r _ _ (0, 0) _ rfl (setRow_heap w5 r _ _ _ _ H35.out) Tryd.underlying27 rfl (info_kyRow HOK5.out)) rfl ?_
  exact ⟨by rw [HNX2.out], below_setRow HB5.out hwr _⟩
end
end Go.Proofs.YtbnnjkjmadnjkaaDoor
