/-
  The document's own Next and Initial (hostlerref10). Printed by tools/gen_kyrnext.py.
-/
import Derived.Test.YtblclinfcdalaaaDoorKyROf
import Derived.Test.YtblclinfcdalaaaDoorKyInit
import Derived.Test.YtblclinfcdalaaaDoorKRMac
namespace Go.Proofs.YtblclinfcdalaaaDoor
open Go.RowKit
set_option linter.unusedVariables false

set_option maxRecDepth 100000 in
set_option maxHeartbeats 1600000 in
theorem rnext_any (k : KS) (w : World) (hk : k.Ok) :
    Calls Tryd.prog 11 #[.agg (kyRow k)] w fun e w' => e = .returned (.agg (kyRow (nextK k))) ∧ Below w.heap.size w w' := by
  have HK := Deep.mk hk
  have HSO : Hid (∀ w' : World, Calls Tryd.prog 28 #[.agg (bRow k.sec), .string { data := #[113, 117, 105, 99, 32, 107, 117] }, .slice none 0 0, .int .i64 32] w' (GaveS w' (lb k.sec qKu 32))) :=
    Lib.hid fun w' => rlabel_any k.sec qKu [] none 0 0 32 w' hk.sec rfl (Nat.le_refl _) (Nat.zero_le _) (Sv.nil _ _ _) (by omega) (by decide)
  have hol := lb32 k.sec qKu (by decide)
  have hnx : nextK k = { ofK (lb k.sec qKu 32) with hp := k.hp, ph := (k.ph + 1) % 18446744073709551616 } := rfl
  generalize lb k.sec qKu 32 = s1 at *
  have HOF : Hid (∀ w' : World, Calls Tryd.prog 9 #[.agg (bRow s1)] w' fun e w2 => e = .returned (.agg (kyRow (ofK s1))) ∧ Below w'.heap.size w' w2) :=
    Lib.hid fun w' => rof_any s1 w' hol
  have HOL := Deep.mk hol
  have hok := ofK_ok hol
  generalize ofK s1 = K1 at *
  have HOK := Deep.mk hok
  have HNX := Deep.mk hnx
  obtain ⟨hbe, h2, h3, h4⟩ := made2K w (kyRow k) (kyRow kyZ) 29 29
  obtain ⟨Z, hZ⟩ : ∃ Z, Z = kyRow kyZ := ⟨_, rfl⟩
  have hz0 := zero_ky
  rw [← hZ] at hz0 h3 hbe h2 h4
  have HZ0 := Deep.mk hz0
  have HZS : Deep (Z.size = 77) := ⟨by rw [hZ, kyZ_ok.size]⟩
  have hph := hk.ph
  obtain ⟨ph, hphe⟩ : ∃ ph, ph = k.ph := ⟨_, rfl⟩
  have HPH := Deep.mk hphe
  rw [← hphe] at hph
  clear hz0 hZ hnx hok hol hk hphe
  go_enter Tryd.func11, Tryd.ntmps11
  go_upto_region 1 with (refine wpList_allocZ rfl 29 rfl Z (HZ0.out _) ?_)
  rw [show (w.alloc (.cells (kyRow k) 29)).heap.size = w.heap.size + 1 by simp]
  generalize (w.alloc (.cells (kyRow k) 29)).alloc (.cells Z 29) = W at *
  obtain ⟨b, hb⟩ : ∃ b, b = w.heap.size := ⟨_, rfl⟩
  obtain ⟨r, hr⟩ : ∃ r, r = w.heap.size + 1 := ⟨_, rfl⟩
  rw [← hb] at h2
  rw [← hr] at h3 h4
  rw [← hr, ← hb]
  have hwr : w.heap.size ≤ r := by omega
  have hbr : b < r := by omega
  have H2 := Lib.hid h2
  have H3 := Lib.hid h3
  have HBE := Lib.hid hbe
  clear hb hr h2 h3 hbe h4
  go_wp2_with (refine wpList_load_mid rfl 22 (.tmp 4) rfl b 0 rfl (k.sec.map cell8) _ (ky_sec H2.out HK.out) Tryd.underlying22 rfl (by rw [List.length_map, HK.out.sec]; exact info_k32) ?_)
  refine (HSO.out W).mono ?_
  rintro e w1 ⟨A1, c1, rfl, h1a, h1b, hs1, hb1⟩
  obtain ⟨b1, o1, rfl, hlt1, hr1⟩ := hs1.there (by intro e; have := HOL.out; rw [e] at this; cases this)
  have H21 := Lib.hid (H2.out.below hb1 H2.out.lt)
  have H31 := Lib.hid (H3.out.below hb1 H3.out.lt)
  have HB1 := Lib.hid (HBE.out.trans (hb1.mono HBE.out.size))
  have HRA1 := Lib.hid hr1
  rw [HOL.out] at h1a
  rw [HOL.out]
  clear hs1 hb1 hr1 H2 H3 HBE HSO
  go_wp2_with fail
  refine (kall32_any s1 b1 o1 c1 w1 HOL.out h1a hlt1 HRA1.out).mono ?_
  rintro e w1b ⟨rfl, hb1b⟩
  have H21b := Lib.hid (H21.out.below hb1b H21.out.lt)
  have H31b := Lib.hid (H31.out.below hb1b H31.out.lt)
  have HB1b := Lib.hid (HB1.out.trans (hb1b.mono HB1.out.size))
  clear hb1b H21 H31 HB1 HRA1 h1a h1b hlt1
  go_wp2_with fail
  refine (HOF.out w1b).mono ?_
  rintro e w2 ⟨rfl, hb2⟩
  have H22 := Lib.hid (H21b.out.below hb2 H21b.out.lt)
  have H32 := Lib.hid (H31b.out.below hb2 H31b.out.lt)
  have HB2 := Lib.hid (HB1b.out.trans (hb2.mono HB1b.out.size))
  clear hb2 H21b H31b HB1b HOF
  go_upto_region 2 with (first
    | (refine wpList_allocZ rfl 29 rfl Z (HZ0.out _) ?_)
    | (refine wpList_store_row rfl 29 (.tmp 3) (.tmp 8) rfl w2.heap.size (kyRow K1) rfl rfl _ _ (heap_alloc_new w2 _) (info_kyRow HOK.out) (by rw [HZS.out, HOK.out.size]) (kyRow_one _) ?_; rw [World.setRow_alloc_new]))
  obtain ⟨n, hn⟩ : ∃ n, n = w2.heap.size := ⟨_, rfl⟩
  have h5 := Wh.new w2 29 (kyRow K1)
  have hb3 := HB2.out.alloc HB2.out.size (.cells (kyRow K1) 29)
  have h23 := H22.out.alloc (.cells (kyRow K1) 29)
  have h33 := H32.out.alloc (.cells (kyRow K1) 29)
  have hrn : r < n := by rw [hn]; exact H32.out.lt
  rw [← hn] at h5
  rw [← hn]
  generalize w2.alloc (.cells (kyRow K1) 29) = w3 at *
  obtain ⟨h6, hg6⟩ := ky_hp h5 HOK.out HK.out.hp
  have hb4 := below_grown hb3 hg6 (by omega) hb3.size
  have h24 := h23.grown hg6 (by intro e; have := Option.some.inj e; omega)
  have h34 := h33.grown hg6 (by intro e; have := Option.some.inj e; omega)
  have HR3 := Lib.hid (ky_hpr h23 HK.out)
  have HT3 := Lib.hid (ky_there3 h5 HOK.out)
  have H6 := Lib.hid h6
  have H24 := Lib.hid h24
  have H34 := Lib.hid h34
  have HB4 := Lib.hid hb4
  have HHP := Deep.mk HK.out.hp
  clear hn h5 hb3 h23 h33 h6 hg6 hb4 h24 h34 H22 H32 HB2
  go_upto_region 3 with (first
    | (refine wpList_load_mid rfl 26 (.tmp 9) rfl b 60 rfl (k.hp.map cell8) _ HR3.out Tryd.underlying26 rfl (by rw [List.length_map, HHP.out]; exact info_k16) ?_)
    | (refine wpList_store_mid rfl 26 (.tmp 11) (.tmp 10) rfl n 60 (bRow k.hp) rfl rfl (by rw [bRow_size, HHP.out]; exact HT3.out) (by rw [bRow_size, HHP.out]; exact info_k16) (bRow_one _) ?_; rw [bRow_list]))
  generalize w3.setCells n 60 (k.hp.map cell8) = w4 at *
  have hok4 : KS.Ok { K1 with hp := k.hp } := ⟨HOK.out.sec, HOK.out.key, HOK.out.iv, HK.out.hp, HOK.out.ph⟩
  obtain ⟨h7, hg7⟩ := ky_ph H6.out hok4 ((ph + 1) % 18446744073709551616)
  have hc1 : w4.cell? ⟨b, 76, none⟩ = some (.int .u64 (ph : Int)) := by rw [HPH.out]; exact ky_cell H24.out HK.out
  obtain ⟨p1, hc2⟩ : ∃ p1 : Nat, w4.cell? ⟨n, 76, none⟩ = some (.int .u64 (p1 : Int)) := ⟨_, ky_cell H6.out hok4⟩
  have hf2 : w4.frozen? ⟨n, 76, none⟩ = false := H6.out.frozen 76
  have hb5 := below_grown HB4.out hg7 (by omega) HB4.out.size
  have h35 := H34.out.grown hg7 (by intro e; have := Option.some.inj e; omega)
  have hok5 : KS.Ok { K1 with hp := k.hp, ph := (ph + 1) % 18446744073709551616 } := ⟨HOK.out.sec, HOK.out.key, HOK.out.iv, HK.out.hp, Nat.mod_lt _ (by decide)⟩
  have hwrap : IntKind.u64.wrap ((ph : Int) + 1) = (((ph + 1) % 18446744073709551616 : Nat) : Int) := by
    rw [IntKind.wrap_u64]
    omega
  have HOK5 := Deep.mk hok5
  have H7 := Lib.hid h7
  have HB5 := Lib.hid hb5
  have H35 := Lib.hid h35
  have HNX2 : Deep (nextK k = { K1 with hp := k.hp, ph := (ph + 1) % 18446744073709551616 }) := ⟨by rw [HPH.out]; exact HNX.out⟩
  clear hok5 h7 hg7 hb5 h35 hok4 H6 H24 H34 HB4 HR3 HT3
  generalize hK5 : ({ K1 with hp := k.hp, ph := (ph + 1) % 18446744073709551616 } : KS) = K5 at *
  clear hK5
  obtain ⟨q, hq⟩ : ∃ q, q = (ph + 1) % 18446744073709551616 := ⟨_, rfl⟩
  rw [← hq] at hwrap H7 HB5 H35
  clear hq
  go_upto_region 4 with (fail)
  clear hc1 hc2 hf2 hwrap
  generalize w4.setCell ⟨n, 76, none⟩ (.int .u64 (q : Int)) = w5 at *
  go_wp2_with (first
    | (refine wpList_load_row rfl 29 (.tmp 3) rfl n rfl _ (kyRow K5) _ _ H7.out Tryd.underlying29 rfl (info_kyRow HOK5.out) ?_)
    | (refine wpList_store_row rfl 29 (.tmp 2) (.tmp 16) rfl r (kyRow K5) rfl rfl _ _ H35.out (info_kyRow HOK5.out) (by rw [HZS.out, HOK5.out.size]) (kyRow_one _) ?_))
  refine bodyPost_ret (v := .agg (kyRow K5)) (results_cell_row Tryd.results11 _ _ r _ _ (0, 0) _ rfl (setRow_heap w5 r _ _ _ _ H35.out) Tryd.underlying29 rfl (info_kyRow HOK5.out)) rfl ?_
  exact ⟨by rw [HNX2.out], below_setRow HB5.out hwr _⟩

set_option maxRecDepth 100000 in
set_option maxHeartbeats 1600000 in
theorem rinitial_c (cid : List UInt8) (A : Option Addr) (m c : Nat) (w : World) (hl : cid.length = m) (hlc : m ≤ c) (hcm : c ≤ maxLen) (hs : Sl w w.heap.size A cid) (hmax : m ≤ 1000000) :
    Calls Tryd.prog 12 #[.slice A m c, .int .i64 0] w fun e w' => e = .returned (.agg (kyRow (initK cIn cid))) ∧ Below w.heap.size w w' := by
  have HL := Deep.mk hl
  have hbe : Below w.heap.size w (w.alloc (.cells (kyRow kyZ) 29)) := (Below.refl _ _).alloc (Nat.le_refl _) _
  have h2 := Wh.new w 29 (kyRow kyZ)
  have HSW := Lib.hid ((Sv.below hs hbe).keep hbe.size (fun _ _ => rfl))
  obtain ⟨Z, hZ⟩ : ∃ Z, Z = kyRow kyZ := ⟨_, rfl⟩
  have hz0 := zero_ky
  rw [← hZ] at hz0 h2 hbe HSW
  have HZ0 := Deep.mk hz0
  have HZS : Deep (Z.size = 77) := ⟨by rw [hZ, kyZ_ok.size]⟩
  clear hz0 hZ hs hl
  go_enter Tryd.func12, Tryd.ntmps12
  go_upto_region 1 with (refine wpList_allocZ rfl 29 rfl Z (HZ0.out _) ?_)
  generalize w.alloc (.cells Z 29) = W at *
  obtain ⟨r, hr⟩ : ∃ r, r = w.heap.size := ⟨_, rfl⟩
  rw [← hr] at h2
  rw [← hr]
  have hwr : w.heap.size ≤ r := by omega
  have H2 := Lib.hid h2
  have HBE := Lib.hid hbe
  clear hr h2 hbe
  go_wp2_with fail
  obtain ⟨wt, hwt⟩ : ∃ wt, wt = W.alloc (.cells #[.int .u8 56, .int .u8 118, .int .u8 44, .int .u8 247, .int .u8 245, .int .u8 89, .int .u8 52, .int .u8 179, .int .u8 77, .int .u8 23, .int .u8 154, .int .u8 230, .int .u8 164, .int .u8 200, .int .u8 12, .int .u8 173, .int .u8 204, .int .u8 187, .int .u8 127, .int .u8 10] 5) := ⟨_, rfl⟩
  rw [← hwt]
  have hbt : Below W.heap.size W wt := by rw [hwt]; exact (Below.refl _ _).alloc (Nat.le_refl _) _
  have hst : wt.heap.size = W.heap.size + 1 := by rw [hwt]; simp
  have hsh : Sl wt wt.heap.size (some ⟨W.heap.size, 0, none⟩) saltK := by
    intro _
    refine ⟨W.heap.size, 0, rfl, by omega, fun i v hv => ?_⟩
    rw [hwt, Nat.zero_add, (Wh.new W _ _).cell, ← hv]
    rw [show (#[Value.int .u8 56, .int .u8 118, .int .u8 44, .int .u8 247, .int .u8 245, .int .u8 89, .int .u8 52, .int .u8 179, .int .u8 77, .int .u8 23, .int .u8 154, .int .u8 230, .int .u8 164, .int .u8 200, .int .u8 12, .int .u8 173, .int .u8 204, .int .u8 187, .int .u8 127, .int .u8 10] : Array Value) = (saltK.map cell8).toArray by kernel_rfl, List.getElem?_toArray]
  have hct : Sl wt wt.heap.size A cid := (Sv.below HSW.out hbt).keep hbt.size (fun _ _ => rfl)
  have hbwt : Below w.heap.size w wt := HBE.out.trans (hbt.mono HBE.out.size)
  have h2t := H2.out.below hbt H2.out.lt
  refine (rmac_any saltK cid _ 20 20 A m c wt rfl (Nat.le_refl _) (by unfold maxLen; omega) hsh (by omega) HL.out hlc hcm hct (by omega)).mono ?_
  rintro e w1 ⟨rfl, hb1⟩
  have hc1 : initK cIn cid = ofK (lb (macK kW saltK cid) cIn 32) := rfl
  have hml : (macK kW saltK cid).length = 32 := macK_len _ _ _
  generalize macK kW saltK cid = M at *
  have HML := Deep.mk hml
  have hs1 := lb32 M cIn (by decide)
  have HS1 : Hid (∀ w' : World, Calls Tryd.prog 28 #[.agg (bRow M), .string { data := #[99, 108, 105, 101, 110, 116, 32, 105, 110] }, .slice none 0 0, .int .i64 32] w' (GaveS w' (lb M cIn 32))) :=
    Lib.hid fun w' => rlabel_any M cIn [] none 0 0 32 w' hml rfl (Nat.le_refl _) (Nat.zero_le _) (Sv.nil _ _ _) (by omega) (by decide)
  generalize lb M cIn 32 = s1 at *
  have HO1 : Hid (∀ w' : World, Calls Tryd.prog 9 #[.agg (bRow s1)] w' fun e w2 => e = .returned (.agg (kyRow (ofK s1))) ∧ Below w'.heap.size w' w2) := Lib.hid fun w' => rof_any s1 w' hs1
  have hk1 := ofK_ok hs1
  generalize ofK s1 = K1 at *
  have HC1 := Deep.mk hc1
  have HK1 := Deep.mk hk1
  have HOL := Deep.mk hs1
  have H21 := Lib.hid (h2t.below hb1 h2t.lt)
  have HB1 := Lib.hid (hbwt.trans (hb1.mono hbwt.size))
  clear hwt hbt hst hsh hct hbwt h2t hb1 hc1 hml hs1 hk1 H2 HBE HSW
  go_upto_region 3 with (first
    | (refine wpList_allocZ rfl 22 rfl (bRow (List.replicate 32 0)) (zero_b32 _) ?_)
    | (refine wpList_store_row rfl 22 (.tmp 6) (.tmp 11) rfl w1.heap.size (bRow M) rfl rfl _ _ (heap_alloc_new w1 _) (info_bRow HML.out) (by rw [bRow_size, bRow_size, HML.out]; rfl) (bRow_one _) ?_; rw [World.setRow_alloc_new]))
  obtain ⟨n, hn⟩ : ∃ n, n = w1.heap.size := ⟨_, rfl⟩
  have h5 := Wh.new w1 22 (bRow M)
  have hb3 := HB1.out.alloc HB1.out.size (.cells (bRow M) 22)
  have h23 := H21.out.alloc (.cells (bRow M) 22)
  rw [← hn] at h5
  rw [← hn]
  generalize w1.alloc (.cells (bRow M) 22) = w3 at *
  have H23 := Lib.hid h23
  have H53 := Lib.hid h5
  have HB3 := Lib.hid hb3
  clear hn h5 hb3 h23 H21 HB1
  go_wp2_with (refine wpList_load_row rfl 22 (.tmp 6) rfl n rfl _ (bRow M) _ _ H53.out Tryd.underlying22 rfl (info_bRow HML.out) ?_)
  refine (HS1.out w3).mono ?_
  rintro e w4 ⟨A4, c4, rfl, h4a, h4b, hs4, hb4⟩
  obtain ⟨b4, o4, rfl, hlt4, hr4⟩ := hs4.there (by intro e; have := HOL.out; rw [e] at this; cases this)
  have H24 := Lib.hid (H23.out.below hb4 H23.out.lt)
  have HB4 := Lib.hid (HB3.out.trans (hb4.mono HB3.out.size))
  have HRA4 := Lib.hid hr4
  rw [HOL.out] at h4a
  rw [HOL.out]
  clear hs4 hb4 hr4 H23 H53 HB3 HS1
  go_wp2_with fail
  refine (kall32_any s1 b4 o4 c4 w4 HOL.out h4a hlt4 HRA4.out).mono ?_
  rintro e w5 ⟨rfl, hb5⟩
  have H25 := Lib.hid (H24.out.below hb5 H24.out.lt)
  have HB5 := Lib.hid (HB4.out.trans (hb5.mono HB4.out.size))
  clear hb5 H24 HB4 HRA4 h4a h4b hlt4
  go_wp2_with fail
  refine (HO1.out w5).mono ?_
  rintro e w6 ⟨rfl, hb6⟩
  have H26 := Lib.hid (H25.out.below hb6 H25.out.lt)
  have HB6 := Lib.hid (HB5.out.trans (hb6.mono HB5.out.size))
  clear hb6 H25 HB5 HO1
  go_wp2_with (refine wpList_store_row rfl 29 (.tmp 4) (.tmp 18) rfl r (kyRow K1) rfl rfl _ _ H26.out (info_kyRow HK1.out) (by rw [HZS.out, HK1.out.size]) (kyRow_one _) ?_)
  refine bodyPost_ret (v := .agg (kyRow K1)) (results_cell_row Tryd.results12 _ _ r _ _ (0, 0) _ rfl (setRow_heap w6 r _ _ _ _ H26.out) Tryd.underlying29 rfl (info_kyRow HK1.out)) rfl ?_
  exact ⟨by rw [HC1.out], below_setRow HB6.out hwr _⟩

set_option maxRecDepth 100000 in
set_option maxHeartbeats 1600000 in
theorem rinitial_s (cid : List UInt8) (A : Option Addr) (m c : Nat) (w : World) (hl : cid.length = m) (hlc : m ≤ c) (hcm : c ≤ maxLen) (hs : Sl w w.heap.size A cid) (hmax : m ≤ 1000000) :
    Calls Tryd.prog 12 #[.slice A m c, .int .i64 1] w fun e w' => e = .returned (.agg (kyRow (initK sIn cid))) ∧ Below w.heap.size w w' := by
  have HL := Deep.mk hl
  have hbe : Below w.heap.size w (w.alloc (.cells (kyRow kyZ) 29)) := (Below.refl _ _).alloc (Nat.le_refl _) _
  have h2 := Wh.new w 29 (kyRow kyZ)
  have HSW := Lib.hid ((Sv.below hs hbe).keep hbe.size (fun _ _ => rfl))
  obtain ⟨Z, hZ⟩ : ∃ Z, Z = kyRow kyZ := ⟨_, rfl⟩
  have hz0 := zero_ky
  rw [← hZ] at hz0 h2 hbe HSW
  have HZ0 := Deep.mk hz0
  have HZS : Deep (Z.size = 77) := ⟨by rw [hZ, kyZ_ok.size]⟩
  clear hz0 hZ hs hl
  go_enter Tryd.func12, Tryd.ntmps12
  go_upto_region 1 with (refine wpList_allocZ rfl 29 rfl Z (HZ0.out _) ?_)
  generalize w.alloc (.cells Z 29) = W at *
  obtain ⟨r, hr⟩ : ∃ r, r = w.heap.size := ⟨_, rfl⟩
  rw [← hr] at h2
  rw [← hr]
  have hwr : w.heap.size ≤ r := by omega
  have H2 := Lib.hid h2
  have HBE := Lib.hid hbe
  clear hr h2 hbe
  go_wp2_with fail
  obtain ⟨wt, hwt⟩ : ∃ wt, wt = W.alloc (.cells #[.int .u8 56, .int .u8 118, .int .u8 44, .int .u8 247, .int .u8 245, .int .u8 89, .int .u8 52, .int .u8 179, .int .u8 77, .int .u8 23, .int .u8 154, .int .u8 230, .int .u8 164, .int .u8 200, .int .u8 12, .int .u8 173, .int .u8 204, .int .u8 187, .int .u8 127, .int .u8 10] 5) := ⟨_, rfl⟩
  rw [← hwt]
  have hbt : Below W.heap.size W wt := by rw [hwt]; exact (Below.refl _ _).alloc (Nat.le_refl _) _
  have hst : wt.heap.size = W.heap.size + 1 := by rw [hwt]; simp
  have hsh : Sl wt wt.heap.size (some ⟨W.heap.size, 0, none⟩) saltK := by
    intro _
    refine ⟨W.heap.size, 0, rfl, by omega, fun i v hv => ?_⟩
    rw [hwt, Nat.zero_add, (Wh.new W _ _).cell, ← hv]
    rw [show (#[Value.int .u8 56, .int .u8 118, .int .u8 44, .int .u8 247, .int .u8 245, .int .u8 89, .int .u8 52, .int .u8 179, .int .u8 77, .int .u8 23, .int .u8 154, .int .u8 230, .int .u8 164, .int .u8 200, .int .u8 12, .int .u8 173, .int .u8 204, .int .u8 187, .int .u8 127, .int .u8 10] : Array Value) = (saltK.map cell8).toArray by kernel_rfl, List.getElem?_toArray]
  have hct : Sl wt wt.heap.size A cid := (Sv.below HSW.out hbt).keep hbt.size (fun _ _ => rfl)
  have hbwt : Below w.heap.size w wt := HBE.out.trans (hbt.mono HBE.out.size)
  have h2t := H2.out.below hbt H2.out.lt
  refine (rmac_any saltK cid _ 20 20 A m c wt rfl (Nat.le_refl _) (by unfold maxLen; omega) hsh (by omega) HL.out hlc hcm hct (by omega)).mono ?_
  rintro e w1 ⟨rfl, hb1⟩
  have hc1 : initK sIn cid = ofK (lb (macK kW saltK cid) sIn 32) := rfl
  have hml : (macK kW saltK cid).length = 32 := macK_len _ _ _
  generalize macK kW saltK cid = M at *
  have HML := Deep.mk hml
  have hs1 := lb32 M sIn (by decide)
  have HS1 : Hid (∀ w' : World, Calls Tryd.prog 28 #[.agg (bRow M), .string { data := #[115, 101, 114, 118, 101, 114, 32, 105, 110] }, .slice none 0 0, .int .i64 32] w' (GaveS w' (lb M sIn 32))) :=
    Lib.hid fun w' => rlabel_any M sIn [] none 0 0 32 w' hml rfl (Nat.le_refl _) (Nat.zero_le _) (Sv.nil _ _ _) (by omega) (by decide)
  generalize lb M sIn 32 = s1 at *
  have HO1 : Hid (∀ w' : World, Calls Tryd.prog 9 #[.agg (bRow s1)] w' fun e w2 => e = .returned (.agg (kyRow (ofK s1))) ∧ Below w'.heap.size w' w2) := Lib.hid fun w' => rof_any s1 w' hs1
  have hk1 := ofK_ok hs1
  generalize ofK s1 = K1 at *
  have HC1 := Deep.mk hc1
  have HK1 := Deep.mk hk1
  have HOL := Deep.mk hs1
  have H21 := Lib.hid (h2t.below hb1 h2t.lt)
  have HB1 := Lib.hid (hbwt.trans (hb1.mono hbwt.size))
  clear hwt hbt hst hsh hct hbwt h2t hb1 hc1 hml hs1 hk1 H2 HBE HSW
  go_upto_region 3 with (first
    | (refine wpList_allocZ rfl 22 rfl (bRow (List.replicate 32 0)) (zero_b32 _) ?_)
    | (refine wpList_store_row rfl 22 (.tmp 6) (.tmp 11) rfl w1.heap.size (bRow M) rfl rfl _ _ (heap_alloc_new w1 _) (info_bRow HML.out) (by rw [bRow_size, bRow_size, HML.out]; rfl) (bRow_one _) ?_; rw [World.setRow_alloc_new]))
  obtain ⟨n, hn⟩ : ∃ n, n = w1.heap.size := ⟨_, rfl⟩
  have h5 := Wh.new w1 22 (bRow M)
  have hb3 := HB1.out.alloc HB1.out.size (.cells (bRow M) 22)
  have h23 := H21.out.alloc (.cells (bRow M) 22)
  rw [← hn] at h5
  rw [← hn]
  generalize w1.alloc (.cells (bRow M) 22) = w3 at *
  have H23 := Lib.hid h23
  have H53 := Lib.hid h5
  have HB3 := Lib.hid hb3
  clear hn h5 hb3 h23 H21 HB1
  go_wp2_with (refine wpList_load_row rfl 22 (.tmp 6) rfl n rfl _ (bRow M) _ _ H53.out Tryd.underlying22 rfl (info_bRow HML.out) ?_)
  refine (HS1.out w3).mono ?_
  rintro e w4 ⟨A4, c4, rfl, h4a, h4b, hs4, hb4⟩
  obtain ⟨b4, o4, rfl, hlt4, hr4⟩ := hs4.there (by intro e; have := HOL.out; rw [e] at this; cases this)
  have H24 := Lib.hid (H23.out.below hb4 H23.out.lt)
  have HB4 := Lib.hid (HB3.out.trans (hb4.mono HB3.out.size))
  have HRA4 := Lib.hid hr4
  rw [HOL.out] at h4a
  rw [HOL.out]
  clear hs4 hb4 hr4 H23 H53 HB3 HS1
  go_wp2_with fail
  refine (kall32_any s1 b4 o4 c4 w4 HOL.out h4a hlt4 HRA4.out).mono ?_
  rintro e w5 ⟨rfl, hb5⟩
  have H25 := Lib.hid (H24.out.below hb5 H24.out.lt)
  have HB5 := Lib.hid (HB4.out.trans (hb5.mono HB4.out.size))
  clear hb5 H24 HB4 HRA4 h4a h4b hlt4
  go_wp2_with fail
  refine (HO1.out w5).mono ?_
  rintro e w6 ⟨rfl, hb6⟩
  have H26 := Lib.hid (H25.out.below hb6 H25.out.lt)
  have HB6 := Lib.hid (HB5.out.trans (hb6.mono HB5.out.size))
  clear hb6 H25 HB5 HO1
  go_wp2_with (refine wpList_store_row rfl 29 (.tmp 4) (.tmp 18) rfl r (kyRow K1) rfl rfl _ _ H26.out (info_kyRow HK1.out) (by rw [HZS.out, HK1.out.size]) (kyRow_one _) ?_)
  refine bodyPost_ret (v := .agg (kyRow K1)) (results_cell_row Tryd.results12 _ _ r _ _ (0, 0) _ rfl (setRow_heap w6 r _ _ _ _ H26.out) Tryd.underlying29 rfl (info_kyRow HK1.out)) rfl ?_
  exact ⟨by rw [HC1.out], below_setRow HB6.out hwr _⟩
end Go.Proofs.YtblclinfcdalaaaDoor
