/-
  key.Next.
-/
import Derived.Test.YtblclinfcdalaaaDoorKyOf
namespace Go.Proofs.YtblclinfcdalaaaDoor
open Go.RowKit
set_option linter.unusedVariables false

/-- Keys in memory with another Hp, another phase. -/
theorem ky_hp {w : World} {g : Nat} {t : TypeId} {k : KS} {x : List UInt8} (h : Wh w g t (kyRow k)) (hk : k.Ok) (hx : x.length = 16) : Wh (w.setCells g 60 (x.map cell8)) g t (kyRow { k with hp := x }) ∧ w.grownBy (w.setCells g 60 (x.map cell8)) (some g) := by
  obtain ⟨h1, h2⟩ := Wh.putsK (x.map cell8) 60 (kyL k) w h (by rw [hk.len, List.length_map, hx]; omega)
  rw [List.length_map, hx, hk.put3 hx] at h1
  exact ⟨h1, h2⟩
theorem ky_ph {w : World} {g : Nat} {t : TypeId} {k : KS} (h : Wh w g t (kyRow k)) (hk : k.Ok) (n : Nat) : Wh (w.setCell ⟨g, 76, none⟩ (.int .u64 (n : Int))) g t (kyRow { k with ph := n }) ∧ w.grownBy (w.setCell ⟨g, 76, none⟩ (.int .u64 (n : Int))) (some g) := by
  have h1 := h.put 76 (.int .u64 (n : Int))
  rw [hk.put4] at h1
  exact ⟨h1, grown_set w g 76 _⟩
theorem ky_cell {w : World} {g : Nat} {t : TypeId} {k : KS} (h : Wh w g t (kyRow k)) (hk : k.Ok) : w.cell? ⟨g, 76, none⟩ = some (.int .u64 (k.ph : Int)) := by
  rw [h.cell, kyRow, List.getElem?_toArray]
  exact hk.f4
theorem ky_sec {w : World} {g : Nat} {t : TypeId} {k : KS} (h : Wh w g t (kyRow k)) (hk : k.Ok) : w.rangeAt g 0 (k.sec.map cell8) := Wh.partK h 0 _ hk.f0
theorem ky_key {w : World} {g : Nat} {t : TypeId} {k : KS} (h : Wh w g t (kyRow k)) (hk : k.Ok) : w.rangeAt g 32 (k.key.map cell8) := Wh.partK h 32 _ hk.f1
theorem ky_iv {w : World} {g : Nat} {t : TypeId} {k : KS} (h : Wh w g t (kyRow k)) (hk : k.Ok) : w.rangeAt g 48 (k.iv.map cell8) := Wh.partK h 48 _ hk.f2
theorem ky_hpr {w : World} {g : Nat} {t : TypeId} {k : KS} (h : Wh w g t (kyRow k)) (hk : k.Ok) : w.rangeAt g 60 (k.hp.map cell8) := Wh.partK h 60 _ hk.f3
theorem ky_there3 {w : World} {g : Nat} {t : TypeId} {k : KS} (h : Wh w g t (kyRow k)) (hk : k.Ok) : w.there g 60 16 := Wh.thereK h 60 16 (by rw [hk.len]; omega)

set_option maxRecDepth 100000 in
set_option maxHeartbeats 1600000 in
theorem next_any (k : KS) (w : World) (hK : Kt w) (hk : k.Ok) :
    Calls Tryd.prog 10 #[.agg (kyRow k)] w fun e w' => e = .returned (.agg (kyRow (nextK k))) ∧ Below w.heap.size w w' := by
  have HK := Deep.mk hk
  have HSO : Hid (∀ w' : World, Kt w' → Calls Tryd.prog 26 #[.agg (bRow k.sec), .string { data := #[113, 117, 105, 99, 32, 107, 117] }] w' fun e w2 => e = .returned (.agg (bRow (lb k.sec qKu 32))) ∧ Below w'.heap.size w' w2) :=
    Lib.hid fun w' h => secretOf_any k.sec qKu w' h hk.sec (by decide)
  have hol := lb32 k.sec qKu (by decide)
  have hnx : nextK k = { ofK (lb k.sec qKu 32) with hp := k.hp, ph := (k.ph + 1) % 18446744073709551616 } := rfl
  generalize lb k.sec qKu 32 = s1 at *
  have HOF : Hid (∀ w' : World, Kt w' → Calls Tryd.prog 7 #[.agg (bRow s1)] w' fun e w2 => e = .returned (.agg (kyRow (ofK s1))) ∧ Below w'.heap.size w' w2) :=
    Lib.hid fun w' h => of_any s1 w' h hol
  have hok := ofK_ok hol
  generalize ofK s1 = K1 at *
  have HOK := Deep.mk hok
  have HNX := Deep.mk hnx
  obtain ⟨hbe, h2, h3, h4⟩ := made2K w (kyRow k) (kyRow kyZ) 29 29
  have HKW := Lib.hid (hK.since hbe)
  obtain ⟨Z, hZ⟩ : ∃ Z, Z = kyRow kyZ := ⟨_, rfl⟩
  have hz0 := zero_ky
  rw [← hZ] at hz0 h3 hbe h2 h4 HKW
  have HZ0 := Deep.mk hz0
  have HZS : Deep (Z.size = 77) := ⟨by rw [hZ, kyZ_ok.size]⟩
  have hph := hk.ph
  obtain ⟨ph, hphe⟩ : ∃ ph, ph = k.ph := ⟨_, rfl⟩
  have HPH := Deep.mk hphe
  rw [← hphe] at hph
  clear hz0 hZ hnx hok hol hK hk hphe
  go_enter Tryd.func10, Tryd.ntmps10
  go_upto_region 1 with (refine wpList_allocZ rfl 29 rfl Z (HZ0.out _) ?_)
  rw [show (w.alloc (.cells (kyRow k) 29)).heap.size = w.heap.size + 1 by simp]
  generalize (w.alloc (.cells (kyRow k) 29)).alloc (.cells Z 29) = W at *
  obtain ⟨b, hb⟩ : ∃ b, b = w.heap.size := ⟨_, rfl⟩
  obtain ⟨r, hr⟩ : ∃ r, r = w.heap.size + 1 := ⟨_, rfl⟩
  rw [← hb] at h2
  rw [← hr] at h3 h4
  rw [← hr, ← hb]
  have hwr : w.heap.size ≤ r := by omega
  have hbr : b < r := by omega
  have H2 := Lib.hid h2
  have H3 := Lib.hid h3
  have HBE := Lib.hid hbe
  clear hb hr h2 h3 hbe h4
  go_wp2_with (refine wpList_load_mid rfl 22 (.tmp 4) rfl b 0 rfl (k.sec.map cell8) _ (ky_sec H2.out HK.out) Tryd.underlying22 rfl (by rw [List.length_map, HK.out.sec]; exact info_k32) ?_)
  refine (HSO.out W HKW.out).mono ?_
  rintro e w1 ⟨rfl, hb1⟩
  have HK1 := Lib.hid (HKW.out.since hb1)
  have H21 := Lib.hid (H2.out.below hb1 H2.out.lt)
  have H31 := Lib.hid (H3.out.below hb1 H3.out.lt)
  have HB1 := Lib.hid (HBE.out.trans (hb1.mono HBE.out.size))
  clear hb1 H2 H3 HBE HKW HSO
  go_wp2_with fail
  refine (HOF.out w1 HK1.out).mono ?_
  rintro e w2 ⟨rfl, hb2⟩
  have H22 := Lib.hid (H21.out.below hb2 H21.out.lt)
  have H32 := Lib.hid (H31.out.below hb2 H31.out.lt)
  have HB2 := Lib.hid (HB1.out.trans (hb2.mono HB1.out.size))
  clear hb2 H21 H31 HB1 HK1 HOF
  go_upto_region 2 with (first
    | (refine wpList_allocZ rfl 29 rfl Z (HZ0.out _) ?_)
    | (refine wpList_store_row rfl 29 (.tmp 3) (.tmp 7) rfl w2.heap.size (kyRow K1) rfl rfl _ _ (heap_alloc_new w2 _) (info_kyRow HOK.out) (by rw [HZS.out, HOK.out.size]) (kyRow_one _) ?_; rw [World.setRow_alloc_new]))
  obtain ⟨n, hn⟩ : ∃ n, n = w2.heap.size := ⟨_, rfl⟩
  have h5 := Wh.new w2 29 (kyRow K1)
  have hb3 := HB2.out.alloc HB2.out.size (.cells (kyRow K1) 29)
  have h23 := H22.out.alloc (.cells (kyRow K1) 29)
  have h33 := H32.out.alloc (.cells (kyRow K1) 29)
  have hrn : r < n := by rw [hn]; exact H32.out.lt
  rw [← hn] at h5
  rw [← hn]
  generalize w2.alloc (.cells (kyRow K1) 29) = w3 at *
  obtain ⟨h6, hg6⟩ := ky_hp h5 HOK.out HK.out.hp
  have hb4 := below_grown hb3 hg6 (by omega) hb3.size
  have h24 := h23.grown hg6 (by intro e; have := Option.some.inj e; omega)
  have h34 := h33.grown hg6 (by intro e; have := Option.some.inj e; omega)
  have HR3 := Lib.hid (ky_hpr h23 HK.out)
  have HT3 := Lib.hid (ky_there3 h5 HOK.out)
  have H6 := Lib.hid h6
  have H24 := Lib.hid h24
  have H34 := Lib.hid h34
  have HB4 := Lib.hid hb4
  have HHP := Deep.mk HK.out.hp
  clear hn h5 hb3 h23 h33 h6 hg6 hb4 h24 h34 H22 H32 HB2
  go_upto_region 3 with (first
    | (refine wpList_load_mid rfl 26 (.tmp 8) rfl b 60 rfl (k.hp.map cell8) _ HR3.out Tryd.underlying26 rfl (by rw [List.length_map, HHP.out]; exact info_k16) ?_)
    | (refine wpList_store_mid rfl 26 (.tmp 10) (.tmp 9) rfl n 60 (bRow k.hp) rfl rfl (by rw [bRow_size, HHP.out]; exact HT3.out) (by rw [bRow_size, HHP.out]; exact info_k16) (bRow_one _) ?_; rw [bRow_list]))
  generalize w3.setCells n 60 (k.hp.map cell8) = w4 at *
  have hok4 : KS.Ok { K1 with hp := k.hp } := ⟨HOK.out.sec, HOK.out.key, HOK.out.iv, HK.out.hp, HOK.out.ph⟩
  obtain ⟨h7, hg7⟩ := ky_ph H6.out hok4 ((ph + 1) % 18446744073709551616)
  have hc1 : w4.cell? ⟨b, 76, none⟩ = some (.int .u64 (ph : Int)) := by rw [HPH.out]; exact ky_cell H24.out HK.out
  obtain ⟨p1, hc2⟩ : ∃ p1 : Nat, w4.cell? ⟨n, 76, none⟩ = some (.int .u64 (p1 : Int)) := ⟨_, ky_cell H6.out hok4⟩
  have hf2 : w4.frozen? ⟨n, 76, none⟩ = false := H6.out.frozen 76
  have hb5 := below_grown HB4.out hg7 (by omega) HB4.out.size
  have h35 := H34.out.grown hg7 (by intro e; have := Option.some.inj e; omega)
  have hok5 : KS.Ok { K1 with hp := k.hp, ph := (ph + 1) % 18446744073709551616 } := ⟨HOK.out.sec, HOK.out.key, HOK.out.iv, HK.out.hp, Nat.mod_lt _ (by decide)⟩
  have hwrap : IntKind.u64.wrap ((ph : Int) + 1) = (((ph + 1) % 18446744073709551616 : Nat) : Int) := by
    rw [IntKind.wrap_u64]
    omega
  have HOK5 := Deep.mk hok5
  have H7 := Lib.hid h7
  have HB5 := Lib.hid hb5
  have H35 := Lib.hid h35
  have HNX2 : Deep (nextK k = { K1 with hp := k.hp, ph := (ph + 1) % 18446744073709551616 }) := ⟨by rw [HPH.out]; exact HNX.out⟩
  clear hok5 h7 hg7 hb5 h35 hok4 H6 H24 H34 HB4 HR3 HT3
  generalize hK5 : ({ K1 with hp := k.hp, ph := (ph + 1) % 18446744073709551616 } : KS) = K5 at *
  clear hK5
  obtain ⟨q, hq⟩ : ∃ q, q = (ph + 1) % 18446744073709551616 := ⟨_, rfl⟩
  rw [← hq] at hwrap H7 HB5 H35
  clear hq
  go_upto_region 4 with (fail)
  clear hc1 hc2 hf2 hwrap
  generalize w4.setCell ⟨n, 76, none⟩ (.int .u64 (q : Int)) = w5 at *
  go_wp2_with (first
    | (refine wpList_load_row rfl 29 (.tmp 3) rfl n rfl _ (kyRow K5) _ _ H7.out Tryd.underlying29 rfl (info_kyRow HOK5.out) ?_)
    | (refine wpList_store_row rfl 29 (.tmp 2) (.tmp 15) rfl r (kyRow K5) rfl rfl _ _ H35.out (info_kyRow HOK5.out) (by rw [HZS.out, HOK5.out.size]) (kyRow_one _) ?_))
  refine bodyPost_ret (v := .agg (kyRow K5)) (results_cell_row Tryd.results10 _ _ r _ _ (0, 0) _ rfl (setRow_heap w5 r _ _ _ _ H35.out) Tryd.underlying29 rfl (info_kyRow HOK5.out)) rfl ?_
  exact ⟨by rw [HNX2.out], below_setRow HB5.out hwr _⟩
end Go.Proofs.YtblclinfcdalaaaDoor
