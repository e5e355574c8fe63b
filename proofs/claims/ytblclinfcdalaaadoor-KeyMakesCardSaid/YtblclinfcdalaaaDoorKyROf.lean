/-
  The document's own Of (hostlerref10).
-/
import Derived.Test.YtblclinfcdalaaaDoorKRLab
import Derived.Test.YtblclinfcdalaaaDoorKyFill
import Derived.Test.YtblclinfcdalaaaDoorKyNext
namespace Go.Proofs.YtblclinfcdalaaaDoor
open Go.RowKit
set_option linter.unusedVariables false

theorem KS.Ok.put1 {k : KS} (h : k.Ok) {x : List UInt8} (hx : x.length = 16) : (kyL k).take 32 ++ (x.map cell8 ++ (kyL k).drop 48) = kyL { k with key := x } := by
  obtain ⟨h1, h2, h3, h4, h5⟩ := h
  have e : kyL k = k.sec.map cell8 ++ (k.key.map cell8 ++ (k.iv.map cell8 ++ (k.hp.map cell8 ++ [.int .u64 (k.ph : Int)]))) := rfl
  rw [e, List.take_left' (by simp [h1]), List.drop_append, List.drop_eq_nil_of_le (by simp [h1]), List.nil_append, List.drop_append, List.drop_eq_nil_of_le (by simp [h1, h2]), List.nil_append]
  simp [kyL, h1, h2]
theorem ky_key1 {w : World} {g : Nat} {t : TypeId} {k : KS} {x : List UInt8} (h : Wh w g t (kyRow k)) (hk : k.Ok) (hx : x.length = 16) : Wh (w.setCells g 32 (x.map cell8)) g t (kyRow { k with key := x }) ∧ w.grownBy (w.setCells g 32 (x.map cell8)) (some g) := by
  obtain ⟨h1, h2⟩ := Wh.putsK (x.map cell8) 32 (kyL k) w h (by rw [hk.len, List.length_map, hx]; omega)
  rw [List.length_map, hx, hk.put1 hx] at h1
  exact ⟨h1, h2⟩
theorem ky_there1 {w : World} {g : Nat} {t : TypeId} {k : KS} (h : Wh w g t (kyRow k)) (hk : k.Ok) : w.there g 32 16 := Wh.thereK h 32 16 (by rw [hk.len]; omega)
theorem KS.Ok.setIv {k : KS} (h : k.Ok) (j : Nat) (hj : j < 12) (x : UInt8) : (kyRow k).setIfInBounds (48 + j) (.int .u8 (x.toNat : Int)) = kyRow { k with iv := k.iv.set j x } := by
  obtain ⟨h1, h2, h3, h4, h5⟩ := h
  rw [kyRow, List.setIfInBounds_toArray, kyRow]
  congr 1
  have e : kyL k = (k.sec.map cell8 ++ k.key.map cell8) ++ (k.iv.map cell8 ++ (k.hp.map cell8 ++ [.int .u64 (k.ph : Int)])) := by simp [kyL]
  rw [e, List.set_append_right _ _ (by simp [h1, h2]), List.set_append_left _ _ (by simp [h1, h2, h3]; omega)]
  simp [kyL, h1, h2, cell8]
theorem ky_ivset {w : World} {g : Nat} {t : TypeId} {k : KS} (h : Wh w g t (kyRow k)) (hk : k.Ok) (j : Nat) (hj : j < 12) (x : UInt8) : Wh (w.setCell ⟨g, 48 + j, none⟩ (.int .u8 (x.toNat : Int))) g t (kyRow { k with iv := k.iv.set j x }) := by
  have h1 := h.put (48 + j) (.int .u8 (x.toNat : Int))
  rwa [hk.setIv j hj] at h1
theorem ky_ivcell {w : World} {g : Nat} {t : TypeId} {k : KS} (h : Wh w g t (kyRow k)) (hk : k.Ok) (j : Nat) (hj : j < 12) : ∃ y : UInt8, w.cell? ⟨g, 48 + j, none⟩ = some (.int .u8 (y.toNat : Int)) :=
  ⟨_, range_cell (ky_iv h hk) (by rw [hk.iv]; exact hj)⟩

theorem Sy.thereY {w : World} {lo : Nat} {A : Option Addr} {l : List UInt8} (h : Sy w lo A (l.map cell8)) (hn : 0 < l.length) : ∃ b off, A = some ⟨b, off, none⟩ ∧ lo ≤ b ∧ b < w.heap.size ∧ w.rangeAt b off (l.map cell8) := by
  obtain ⟨b, off, hA, h1, h2, h3⟩ := h (by intro e; have : l.length = 0 := by simpa using congrArg List.length e
                                           omega)
  exact ⟨b, off, hA, h1, h2, fun j v hv => h3 j v hv⟩

set_option maxRecDepth 100000 in
set_option maxHeartbeats 1600000 in
theorem rof_any (sec : List UInt8) (w : World) (hsec : sec.length = 32) :
    Calls Tryd.prog 9 #[.agg (bRow sec)] w fun e w' => e = .returned (.agg (kyRow (ofK sec))) ∧ Below w.heap.size w w' := by
  have HSEC := Deep.mk hsec
  have hlab := fun (lab : List UInt8) (n : Nat) (h : lab.length ≤ 249) (w' : World) => rlabel_young sec lab [] none 0 0 (n : Int) w' hsec rfl (Nat.le_refl _) (Nat.zero_le _) (Sv.nil _ _ _) (by omega) (by omega)
  have HL1 : Hid (∀ w' : World, Calls Tryd.prog 28 #[.agg (bRow sec), .string { data := #[113, 117, 105, 99, 32, 107, 101, 121] }, .slice none 0 0, .int .i64 16] w' (GaveY w' (lb sec qKey 16))) := Lib.hid (hlab qKey 16 (by decide))
  have HL2 : Hid (∀ w' : World, Calls Tryd.prog 28 #[.agg (bRow sec), .string { data := #[113, 117, 105, 99, 32, 105, 118] }, .slice none 0 0, .int .i64 12] w' (GaveY w' (lb sec qIv 12))) := Lib.hid (hlab qIv 12 (by decide))
  have HL3 : Hid (∀ w' : World, Calls Tryd.prog 28 #[.agg (bRow sec), .string { data := #[113, 117, 105, 99, 32, 104, 112] }, .slice none 0 0, .int .i64 16] w' (GaveY w' (lb sec qHp 16))) := Lib.hid (hlab qHp 16 (by decide))
  have hok := ofK_ok hsec
  have e1 := hok.key
  have e2 := hok.iv
  have e3 := hok.hp
  unfold ofK at e1 e2 e3 hok ⊢
  simp only at e1 e2 e3
  generalize lb sec qKey 16 = k1 at *
  generalize lb sec qIv 12 = k2 at *
  generalize lb sec qHp 16 = k3 at *
  have HE1 := Deep.mk e1
  have HE2 := Deep.mk e2
  have HE3 := Deep.mk e3
  have HOK := Deep.mk hok
  have hbt := built_kyS sec hsec
  obtain ⟨R0, hR0⟩ : ∃ R, R = kyRow ⟨sec, List.replicate 16 0, List.replicate 12 0, List.replicate 16 0, 0⟩ := ⟨_, rfl⟩
  rw [← hR0] at hbt
  have hok0 : KS.Ok ⟨sec, List.replicate 16 0, List.replicate 12 0, List.replicate 16 0, 0⟩ := ⟨hsec, by simp, by simp, by simp, by simp⟩
  have HBT := Deep.mk hbt
  have HR0 := Deep.mk hR0
  have HOK0 := Deep.mk hok0
  obtain ⟨hbe, h2, h3, h4⟩ := made2K w (bRow sec) (kyRow kyZ) 22 29
  obtain ⟨Z, hZ⟩ : ∃ Z, Z = kyRow kyZ := ⟨_, rfl⟩
  have hz0 := zero_ky
  rw [← hZ] at hz0 h3 hbe h2 h4
  have HZ0 := Deep.mk hz0
  have HZS : Deep (Z.size = 77) := ⟨by rw [hZ, kyZ_ok.size]⟩
  clear e1 e2 e3 hok hbt hsec hlab hR0 hok0 hZ hz0
  go_enter Tryd.func9, Tryd.ntmps9
  go_upto_region 1 with (refine wpList_allocZ rfl 29 rfl Z (HZ0.out _) ?_)
  rw [show (w.alloc (.cells (bRow sec) 22)).heap.size = w.heap.size + 1 by simp]
  generalize (w.alloc (.cells (bRow sec) 22)).alloc (.cells Z 29) = W at *
  obtain ⟨b, hb⟩ : ∃ b, b = w.heap.size := ⟨_, rfl⟩
  obtain ⟨r, hr⟩ : ∃ r, r = w.heap.size + 1 := ⟨_, rfl⟩
  rw [← hb] at h2
  rw [← hr] at h3 h4
  rw [← hr, ← hb]
  have hwr : w.heap.size ≤ r := by omega
  have hbr : b < r := by omega
  have H2 := Lib.hid h2
  have H3 := Lib.hid h3
  have HBE := Lib.hid hbe
  have hrW : r < W.heap.size := by omega
  clear hb hr h2 h3 hbe h4
  go_upto_region 2 with (first
    | (refine wpList_load_row rfl 22 (.tmp 1) rfl b rfl _ (bRow sec) _ _ H2.out Tryd.underlying22 rfl (info_bRow HSEC.out) ?_)
    | (refine wpList_built1Z rfl 29 (.tmp 6) rfl (.agg (bRow sec)) rfl R0 HBT.out ?_)
    | (refine wpList_allocZ rfl 29 rfl Z (HZ0.out _) ?_)
    | (refine wpList_store_row rfl 29 (.tmp 3) (.tmp 7) rfl W.heap.size R0 rfl rfl _ _ (heap_alloc_new W _) (by rw [HR0.out]; exact info_kyRow HOK0.out) (by rw [HZS.out, HR0.out, HOK0.out.size]) (by rw [HR0.out]; exact kyRow_one _) ?_; rw [World.setRow_alloc_new]))
  obtain ⟨n, hn⟩ : ∃ n, n = W.heap.size := ⟨_, rfl⟩
  have h5 : Wh (W.alloc (.cells R0 29)) W.heap.size 29 (kyRow ⟨sec, List.replicate 16 0, List.replicate 12 0, List.replicate 16 0, 0⟩) := by rw [← HR0.out]; exact Wh.new _ _ _
  have h23 := H2.out.alloc (.cells R0 29)
  have h33 := H3.out.alloc (.cells R0 29)
  have hb3 := HBE.out.alloc HBE.out.size (.cells R0 29)
  rw [← hn] at h5
  rw [← hn]
  have hrn : r < n := by omega
  generalize W.alloc (.cells R0 29) = w3 at *
  have H23 := Lib.hid h23
  have H33 := Lib.hid h33
  have H53 := Lib.hid h5
  have HB3 := Lib.hid hb3
  clear hn h5 h23 h33 hb3 H2 H3 HBE hrW HBT HR0
  -- Key
  go_wp2_with (refine wpList_load_row rfl 22 (.tmp 1) rfl b rfl _ (bRow sec) _ _ H23.out Tryd.underlying22 rfl (info_bRow HSEC.out) ?_)
  refine (HL1.out w3).mono ?_
  rintro e w4 ⟨A4, c4, rfl, h4a, h4b, hs4, hb4⟩
  obtain ⟨b4, o4, rfl, _, hlt4, hr4⟩ := hs4.thereY (by have := HE1.out; omega)
  have H24 := Lib.hid (H23.out.below hb4 H23.out.lt)
  have H34 := Lib.hid (H33.out.below hb4 H33.out.lt)
  have H54 := Lib.hid (H53.out.below hb4 H53.out.lt)
  have HB4 := Lib.hid (HB3.out.trans (hb4.mono HB3.out.size))
  have HRA4 := Lib.hid hr4
  rw [HE1.out] at h4a
  rw [HE1.out]
  clear hs4 hb4 hr4 H23 H33 H53 HB3 HL1
  go_wp2_with fail
  refine (kfirst16_any k1 b4 o4 c4 w4 HE1.out h4a hlt4 HRA4.out).mono ?_
  rintro e w5 ⟨rfl, hb5⟩
  have H25 := Lib.hid (H24.out.below hb5 H24.out.lt)
  have H35 := Lib.hid (H34.out.below hb5 H34.out.lt)
  have H55 := Lib.hid (H54.out.below hb5 H54.out.lt)
  have HB5 := Lib.hid (HB4.out.trans (hb5.mono HB4.out.size))
  clear hb5 H24 H34 H54 HB4 HRA4 h4a h4b hlt4
  have HT5 := Lib.hid (ky_there1 H55.out HOK0.out)
  go_upto_region 3 with (refine wpList_store_mid rfl 26 (.tmp 11) (.tmp 10) rfl n 32 (bRow k1) rfl rfl (by rw [bRow_size, HE1.out]; exact HT5.out) (by rw [bRow_size, HE1.out]; exact info_k16) (bRow_one _) ?_; rw [bRow_list])
  obtain ⟨h6, hg6⟩ := ky_key1 H55.out HOK0.out HE1.out
  have hok1 : KS.Ok ⟨sec, k1, List.replicate 12 0, List.replicate 16 0, 0⟩ := ⟨HSEC.out, HE1.out, by simp, by simp, by simp⟩
  have h26 := H25.out.grown hg6 (by intro e; have := Option.some.inj e; omega)
  have h36 := H35.out.grown hg6 (by intro e; have := Option.some.inj e; omega)
  have hb6 := below_grown HB5.out hg6 (by omega) HB5.out.size
  generalize w5.setCells n 32 (k1.map cell8) = w6 at *
  have H26 := Lib.hid h26
  have H36 := Lib.hid h36
  have H56 := Lib.hid h6
  have HB6 := Lib.hid hb6
  have HOK1 := Deep.mk hok1
  clear h6 hg6 h26 h36 hb6 hok1 H25 H35 H55 HB5 HT5
  -- Hp
  go_wp2_with (refine wpList_load_row rfl 22 (.tmp 1) rfl b rfl _ (bRow sec) _ _ H26.out Tryd.underlying22 rfl (info_bRow HSEC.out) ?_)
  refine (HL3.out w6).mono ?_
  rintro e w7 ⟨A7, c7, rfl, h7a, h7b, hs7, hb7⟩
  obtain ⟨b7, o7, rfl, _, hlt7, hr7⟩ := hs7.thereY (by have := HE3.out; omega)
  have H27 := Lib.hid (H26.out.below hb7 H26.out.lt)
  have H37 := Lib.hid (H36.out.below hb7 H36.out.lt)
  have H57 := Lib.hid (H56.out.below hb7 H56.out.lt)
  have HB7 := Lib.hid (HB6.out.trans (hb7.mono HB6.out.size))
  have HRA7 := Lib.hid hr7
  rw [HE3.out] at h7a
  rw [HE3.out]
  clear hs7 hb7 hr7 H26 H36 H56 HB6 HL3
  go_wp2_with fail
  refine (kfirst16_any k3 b7 o7 c7 w7 HE3.out h7a hlt7 HRA7.out).mono ?_
  rintro e w8 ⟨rfl, hb8⟩
  have H28 := Lib.hid (H27.out.below hb8 H27.out.lt)
  have H38 := Lib.hid (H37.out.below hb8 H37.out.lt)
  have H58 := Lib.hid (H57.out.below hb8 H57.out.lt)
  have HB8 := Lib.hid (HB7.out.trans (hb8.mono HB7.out.size))
  clear hb8 H27 H37 H57 HB7 HRA7 h7a h7b hlt7
  have HT8 := Lib.hid (ky_there3 H58.out HOK1.out)
  go_upto_region 4 with (refine wpList_store_mid rfl 26 (.tmp 15) (.tmp 14) rfl n 60 (bRow k3) rfl rfl (by rw [bRow_size, HE3.out]; exact HT8.out) (by rw [bRow_size, HE3.out]; exact info_k16) (bRow_one _) ?_; rw [bRow_list])
  obtain ⟨h9, hg9⟩ := ky_hp H58.out HOK1.out HE3.out
  have hok2 : KS.Ok ⟨sec, k1, List.replicate 12 0, k3, 0⟩ := ⟨HSEC.out, HE1.out, by simp, HE3.out, by simp⟩
  have h29 := H28.out.grown hg9 (by intro e; have := Option.some.inj e; omega)
  have h39 := H38.out.grown hg9 (by intro e; have := Option.some.inj e; omega)
  have hb9 := below_grown HB8.out hg9 (by omega) HB8.out.size
  generalize w8.setCells n 60 (k3.map cell8) = w9 at *
  have H29 := Lib.hid h29
  have H39 := Lib.hid h39
  have H59 := Lib.hid h9
  have HB9 := Lib.hid hb9
  clear h9 hg9 h29 h39 hb9 H28 H38 H58 HB8 HT8 hok2
  -- Iv
  go_wp2_with (refine wpList_load_row rfl 22 (.tmp 1) rfl b rfl _ (bRow sec) _ _ H29.out Tryd.underlying22 rfl (info_bRow HSEC.out) ?_)
  refine (HL2.out w9).mono ?_
  rintro e w10 ⟨A10, c10, rfl, h10a, h10b, hs10, hb10⟩
  obtain ⟨b10, o10, rfl, hge10, hlt10, hr10⟩ := hs10.thereY (by have := HE2.out; omega)
  have hnb10 : n < b10 := Nat.lt_of_lt_of_le H59.out.lt hge10
  have H310 := Lib.hid (H39.out.below hb10 H39.out.lt)
  have H510 : Hid (Wh w10 n 29 (kyRow ⟨sec, k1, fillN k2 0, k3, 0⟩)) := Lib.hid (by rw [fillN_0, HE2.out]; exact H59.out.below hb10 H59.out.lt)
  have HB10 := Lib.hid (HB9.out.trans (hb10.mono HB9.out.size))
  have HRA10 := Lib.hid hr10
  rw [HE2.out] at h10a
  rw [HE2.out]
  clear hs10 hb10 hr10 H29 H39 H59 HB9 HL2
  have hokf : ∀ k : Nat, k ≤ 12 → KS.Ok ⟨sec, k1, fillN k2 k, k3, 0⟩ := fun k hk => ⟨HSEC.out, HE1.out, by have := HE2.out; show (fillN k2 k).length = 12; rw [fillN_len k2 k (by omega), this], HE3.out, by simp⟩
  have HOKF := Deep.mk hokf
  have hbn : w.heap.size ≤ n := by omega
  clear hokf HZ0 HOK0 HOK1
  go_wp2_with fail
  go_loopw [5] (fun i wr => ∃ k : Nat, k ≤ 12 ∧ i = .int .i64 (k : Int) ∧ Hid (Wh wr n 29 (kyRow ⟨sec, k1, fillN k2 k, k3, 0⟩)) ∧ Hid (w10.grownBy wr (some n))) (fun i _ => 12 - (intOf i).toNat)
  case atStart => exact ⟨0, by omega, rfl, H510, Lib.hid (World.grownBy.refl _ _)⟩
  case round =>
    obtain ⟨k, hk, rfl, HW, HG⟩ := hrel
    clear H510
    by_cases hlt : k < 12
    · have hkl : k < k2.length := by have := HE2.out; omega
      obtain ⟨y, hv⟩ := ky_ivcell HW.out (HOKF.out k (by omega)) k hlt
      have hf := HW.out.frozen (48 + k)
      have hne : ¬ b10 = n := by omega
      have hs := (World.cell?_of_block (HG.out.block b10 (by omega) (by intro e; have := Option.some.inj e; omega))).trans (range_cell HRA10.out hkl)
      have hst := fillN_set k2 k hkl
      generalize hx : k2.getD k 0 = x at *
      have HST := Deep.mk hst
      have t1 : decide ((k : Int) < 12) = true := decide_eq_true (by omega)
      clear hx hst hkl
      go_wp2
      refine ⟨⟨k + 1, by omega, rfl, ?_, ?_⟩, by simp [intOf]; omega⟩
      · have h := ky_ivset HW.out (HOKF.out k (by omega)) k hlt x
        simp only [HST.out] at h
        exact Lib.hid h
      · exact Lib.hid (grown_trans HG.out (grown_set _ _ _ _))
    · have hkd : decide ((k : Int) < 12) = false := by rw [decide_eq_false_iff_not]; omega
      have HW12 : Hid (Wh wr n 29 (kyRow ⟨sec, k1, k2, k3, 0⟩)) := by
        have h := HW.out
        rw [show k = k2.length by have := HE2.out; omega, fillN_all] at h
        exact Lib.hid h
      have HR12 : Hid (Wh wr r 29 Z) := Lib.hid (H310.out.grown HG.out (by intro e; have := Option.some.inj e; omega))
      have HBW := Lib.hid (below_grown HB10.out HG.out hbn HB10.out.size)
      obtain ⟨R, hR⟩ : ∃ R, R = kyRow ⟨sec, k1, k2, k3, 0⟩ := ⟨_, rfl⟩
      rw [← hR] at HW12
      have hrs : R.size = 77 := by rw [hR]; exact HOK.out.size
      have hri := info_kyRow HOK.out
      rw [← hR] at hri
      have hr1 : R.all (·.oneCell') = true := by rw [hR]; exact kyRow_one _
      have HRS := Deep.mk hrs
      have HRI := Deep.mk hri
      have HR1 := Deep.mk hr1
      have HRE := Deep.mk hR
      clear HW HG hlt hk HRA10 H310 HB10 hR hrs hri hr1
      go_wp2_with (first
        | (refine wpList_load_row rfl 29 (.tmp 3) rfl n rfl _ R _ _ HW12.out Tryd.underlying29 rfl HRI.out ?_)
        | (refine wpList_store_row rfl 29 (.tmp 2) (.tmp 29) rfl r R rfl rfl _ _ HR12.out HRI.out (by rw [HZS.out, HRS.out]) HR1.out ?_))
      refine bodyPost_ret (v := .agg R) (results_cell_row Tryd.results9 _ _ r _ _ (0, 0) _ rfl (setRow_heap wr r _ _ _ _ HR12.out) Tryd.underlying29 rfl HRI.out) rfl ?_
      exact ⟨by rw [HRE.out], below_setRow HBW.out hwr _⟩
end Go.Proofs.YtblclinfcdalaaaDoor
