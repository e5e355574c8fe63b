/-
  The walk through the statement KeyMakes. Printed by tools/gen_kylawm.py.
-/
import Derived.Test.YtblclinfcdalaaaDoorKyEq
import Derived.Test.YtblclinfcdalaaaDoorKyKnown
import Derived.Test.YtblclinfcdalaaaDoorKyRTok
namespace Go.Proofs.YtblclinfcdalaaaDoor
open Go.RowKit
set_option linter.unusedVariables false

theorem ky_row {w : World} {g : Nat} {t : TypeId} {k : KS} (h : Wh w g t (kyRow k)) : w.rangeAt g 0 (kyL k) := Wh.wholeK h

set_option maxRecDepth 100000 in
set_option maxHeartbeats 800000 in
theorem makes_out (sec : List UInt8) (A : Option Addr) (m c p : Nat) (w : World) (hK : Kt w) (hsec : sec.length = 32) (ho : 300 < m) :
    Calls Tryd.prog 3 #[.agg (bRow sec), .slice A m c, .int .u64 (p : Int)] w fun e w' => e = .returned (.bool true) ∧ Below w.heap.size w w' := by
  have hb0 : Below w.heap.size w (w.alloc (.cells (bRow sec) 22)) := (Below.refl _ _).alloc (Nat.le_refl _) _
  have HKN := Lib.hid (kyknown_any (w.alloc (.cells (bRow sec) 22)) (hK.since hb0))
  have HB0 := Lib.hid hb0
  have HSZ : (bRow sec).size = 32 := by rw [bRow_size, hsec]
  have t1 : decide ((300 : Int) < (m : Int)) = true := decide_eq_true (by omega)
  clear ho hK hb0
  go_enter Tryd.func3, Tryd.ntmps3
  go_wp2_with (go_at_call 6; refine HKN.out.mono ?_; rintro e w1 ⟨rfl, hb1⟩; have HB1 := Lib.hid (HB0.out.trans (hb1.mono HB0.out.size)); clear hb1)
  go_ret
  exact ⟨rfl, HB1.out⟩

/-- What the law's calls want of the world. -/
structure MK (w wr : World) (b : Nat) (sec cid : List UInt8) (A : Option Addr) : Prop where
  bel : Below w.heap.size w wr
  box : Wh wr b 22 (bRow sec)
  inp : Sl wr wr.heap.size A cid
  kt : Kt wr
theorem MK.since {w a b : World} {g : Nat} {sec cid : List UInt8} {A : Option Addr} (h : MK w a g sec cid A) (hb : Below a.heap.size a b) : MK w b g sec cid A :=
  ⟨h.bel.trans (hb.mono h.bel.size), h.box.below hb h.box.lt, (Sv.below h.inp hb).keep hb.size (fun _ _ => rfl), h.kt.since hb⟩

set_option maxRecDepth 100000 in
set_option maxHeartbeats 3200000 in
theorem makes_in (sec cid : List UInt8) (A : Option Addr) (m c p : Nat) (w : World) (hK : Kt w) (hsec : sec.length = 32) (hl : cid.length = m) (hlc : m ≤ c) (hcm : c ≤ maxLen) (hs : Sl w w.heap.size A cid) (hm : m ≤ 300) (hp : p < 18446744073709551616) :
    Calls Tryd.prog 3 #[.agg (bRow sec), .slice A m c, .int .u64 (p : Int)] w fun e w' => e = .returned (.bool true) ∧ Below w.heap.size w w' := by
  have hb0 : Below w.heap.size w (w.alloc (.cells (bRow sec) 22)) := (Below.refl _ _).alloc (Nat.le_refl _) _
  have hw0 : Wh (w.alloc (.cells (bRow sec) 22)) w.heap.size 22 (bRow sec) := Wh.new _ _ _
  have HKN := Lib.hid (kyknown_any (w.alloc (.cells (bRow sec) 22)) (hK.since hb0))
  have HSEC := Deep.mk hsec
  have HSZ : (bRow sec).size = 32 := by rw [bRow_size, hsec]
  have t1 : decide ((300 : Int) < (m : Int)) = false := decide_eq_false (by omega)
  obtain ⟨r, hr⟩ : ∃ r, r = w.heap.size := ⟨_, rfl⟩
  rw [← hr] at hw0
  have hm0 : MK w (w.alloc (.cells (bRow sec) 22)) r sec cid A := ⟨hb0, hw0, (Sv.below hs hb0).keep hb0.size (fun _ _ => rfl), hK.since hb0⟩
  have HM0 := Lib.hid hm0
  -- the calls' contracts
  have HOF : Hid (∀ w' : World, Kt w' → Calls Tryd.prog 7 #[.agg (bRow sec)] w' fun e w2 => e = .returned (.agg (kyRow (ofK sec))) ∧ Below w'.heap.size w' w2) := Lib.hid fun w' h => of_any sec w' h hsec
  have HRO : Hid (∀ w' : World, Calls Tryd.prog 9 #[.agg (bRow sec)] w' fun e w2 => e = .returned (.agg (kyRow (ofK sec))) ∧ Below w'.heap.size w' w2) := Lib.hid fun w' => rof_any sec w' hsec
  have hok := ofK_ok hsec
  have hoP : KS.Ok { ofK sec with ph := p } := ⟨hok.sec, hok.key, hok.iv, hok.hp, hp⟩
  generalize ofK sec = K at *
  generalize hP : ({ K with ph := p } : KS) = P at *
  have HNX : Hid (∀ w' : World, Kt w' → Calls Tryd.prog 10 #[.agg (kyRow P)] w' fun e w2 => e = .returned (.agg (kyRow (nextK P))) ∧ Below w'.heap.size w' w2) := Lib.hid fun w' h => next_any P w' h hoP
  have HRN : Hid (∀ w' : World, Calls Tryd.prog 11 #[.agg (kyRow P)] w' fun e w2 => e = .returned (.agg (kyRow (nextK P))) ∧ Below w'.heap.size w' w2) := Lib.hid fun w' => rnext_any P w' hoP
  have hoN := nextK_ok hoP
  generalize nextK P = N at *
  have HIN : Hid (∀ w' : World, Kt w' → Sl w' w'.heap.size A cid → Calls Tryd.prog 8 #[.slice A m c] w' fun e w2 => e = .returned (.tuple #[.agg (kyRow (initK cIn cid)), .agg (kyRow (initK sIn cid))]) ∧ Below w'.heap.size w' w2) := Lib.hid fun w' h h2 => initial_any cid A m c w' h hl hlc hcm h2 (by omega)
  have HRC : Hid (∀ w' : World, Sl w' w'.heap.size A cid → Calls Tryd.prog 12 #[.slice A m c, .int .i64 0] w' fun e w2 => e = .returned (.agg (kyRow (initK cIn cid))) ∧ Below w'.heap.size w' w2) := Lib.hid fun w' h2 => rinitial_c cid A m c w' hl hlc hcm h2 (by omega)
  have HRS : Hid (∀ w' : World, Sl w' w'.heap.size A cid → Calls Tryd.prog 12 #[.slice A m c, .int .i64 1] w' fun e w2 => e = .returned (.agg (kyRow (initK sIn cid))) ∧ Below w'.heap.size w' w2) := Lib.hid fun w' h2 => rinitial_s cid A m c w' hl hlc hcm h2 (by omega)
  have hoC := initK_ok cIn cid (by decide)
  have hoS := initK_ok sIn cid (by decide)
  generalize initK cIn cid = C at *
  generalize initK sIn cid = S at *
  have HTK : Hid (∀ w' : World, Kt w' → Sl w' w'.heap.size A cid → Calls Tryd.prog 13 #[.agg (bRow sec), .slice A m c] w' fun e w2 => e = .returned (.agg (bRow (tokK sec cid))) ∧ Below w'.heap.size w' w2) := Lib.hid fun w' h h2 => token_any sec cid A m c w' h hsec hl hlc hcm h2 (by omega)
  have HRT : Hid (∀ w' : World, Sl w' w'.heap.size A cid → Calls Tryd.prog 14 #[.agg (bRow sec), .slice A m c] w' fun e w2 => e = .returned (.agg (bRow (tokK sec cid))) ∧ Below w'.heap.size w' w2) := Lib.hid fun w' h2 => rtoken_any sec cid A m c w' hsec hl hlc hcm h2 (by omega)
  have hoT := tokK_len sec cid
  generalize tokK sec cid = TT at *
  have EQK := Lib.hid (fun w' => eq_ky K hok w')
  have EQN := Lib.hid (fun w' => eq_ky N hoN w')
  have EQC := Lib.hid (fun w' => eq_ky C hoC w')
  have EQS := Lib.hid (fun w' => eq_ky S hoS w')
  have EQT := Lib.hid (fun w' => eq_tok TT hoT w')
  have HOK := Deep.mk hok
  have HOP := Deep.mk hoP
  have HOC := Deep.mk hoC
  have HOS := Deep.mk hoS
  have HP := Deep.mk hP
  obtain ⟨Z, hZ⟩ : ∃ Z, Z = kyRow kyZ := ⟨_, rfl⟩
  have hz0 := zero_ky
  rw [← hZ] at hz0
  have HZ0 := Deep.mk hz0
  have HZS : Deep (Z.size = 77) := ⟨by rw [hZ, kyZ_ok.size]⟩
  clear hz0 hZ hP hok hoP hoN hoC hoS hoT hsec hl hlc hcm hs hK hm hb0 hw0 hm0 hp
  go_enter Tryd.func3, Tryd.ntmps3
  go_upto_region 5 with (go_at_call 6; refine HKN.out.mono ?_; rintro e w1 ⟨rfl, hb1⟩; have HM1 := Lib.hid (HM0.out.since hb1); clear hb1)
  rw [← hr]
  clear HKN HM0 hr
  go_wp2_with (refine wpList_load_row rfl 22 (.tmp 3) rfl r rfl _ (bRow sec) _ _ HM1.out.box Tryd.underlying22 rfl (info_bRow HSEC.out) ?_)
  refine (HOF.out w1 HM1.out.kt).mono ?_
  rintro e w2 ⟨rfl, hb2⟩
  have HM2 := Lib.hid (HM1.out.since hb2)
  clear hb2 HM1 HOF
  go_upto_region 6 with (first
    | (refine wpList_allocZ rfl 29 rfl Z (HZ0.out _) ?_)
    | (refine wpList_store_row rfl 29 (.tmp 7) (.tmp 17) rfl w2.heap.size (kyRow K) rfl rfl _ _ (heap_alloc_new w2 _) (info_kyRow HOK.out) (by rw [HZS.out, HOK.out.size]) (kyRow_one _) ?_; rw [World.setRow_alloc_new]))
  obtain ⟨n7, hn7⟩ : ∃ n, n = w2.heap.size := ⟨_, rfl⟩
  have h7 := Wh.new w2 29 (kyRow K)
  have hm3 := HM2.out.since ((Below.refl _ _).alloc (Nat.le_refl _) (.cells (kyRow K) 29))
  rw [← hn7] at h7
  rw [← hn7]
  generalize w2.alloc (.cells (kyRow K) 29) = w3 at *
  have H73 := Lib.hid h7
  have HM3 := Lib.hid hm3
  have hw7 : w.heap.size ≤ n7 := by rw [hn7]; exact HM2.out.bel.size
  clear hn7 h7 hm3 HM2
  go_upto_region 7 with (first
    | (refine wpList_load_row rfl 29 (.tmp 7) rfl n7 rfl _ (kyRow K) _ _ H73.out Tryd.underlying29 rfl (info_kyRow HOK.out) ?_)
    | (refine wpList_allocZ rfl 29 rfl Z (HZ0.out _) ?_)
    | (refine wpList_store_row rfl 29 (.tmp 8) (.tmp 18) rfl w3.heap.size (kyRow K) rfl rfl _ _ (heap_alloc_new w3 _) (info_kyRow HOK.out) (by rw [HZS.out, HOK.out.size]) (kyRow_one _) ?_; rw [World.setRow_alloc_new]))
  obtain ⟨n8, hn8⟩ : ∃ n, n = w3.heap.size := ⟨_, rfl⟩
  have h8 := Wh.new w3 29 (kyRow K)
  have h74 := H73.out.alloc (.cells (kyRow K) 29)
  have hm4 := HM3.out.since ((Below.refl _ _).alloc (Nat.le_refl _) (.cells (kyRow K) 29))
  have hrn8 : r < n8 := by rw [hn8]; exact HM3.out.box.lt
  have hn78 : n7 < n8 := by rw [hn8]; exact H73.out.lt
  have hwn8 : w.heap.size ≤ n8 := by rw [hn8]; exact HM3.out.bel.size
  have hw3n : w3.heap.size ≤ n8 := by rw [hn8]; exact Nat.le_refl _
  have hin3 := HM3.out.inp
  have hkt3 := HM3.out.kt
  rw [← hn8] at h8
  rw [← hn8]
  have hbel34 : Below w3.heap.size w3 (w3.alloc (.cells (kyRow K) 29)) := (Below.refl _ _).alloc (Nat.le_refl _) _
  generalize w3.alloc (.cells (kyRow K) 29) = w4 at *
  obtain ⟨h85, hg5⟩ := ky_ph h8 HOK.out p
  rw [HP.out] at h85
  obtain ⟨q0, hc2⟩ : ∃ p1 : Nat, w4.cell? ⟨n8, 76, none⟩ = some (.int .u64 (p1 : Int)) := ⟨_, ky_cell h8 HOK.out⟩
  have hf2 : w4.frozen? ⟨n8, 76, none⟩ = false := h8.frozen 76
  have hb35 := below_grown hbel34 hg5 hw3n hbel34.size
  have hm5 := HM3.out.since hb35
  have h75 := h74.grown hg5 (by intro e; have := Option.some.inj e; omega)
  have H85 := Lib.hid h85
  have HM5 := Lib.hid hm5
  have H75 := Lib.hid h75
  clear h8 h74 hm4 hin3 hkt3 hbel34 h85 hg5 hb35 hm5 h75 H73 HM3 hn8 hw3n
  go_upto_region 8 with (fail)
  clear hc2 hf2
  generalize w4.setCell ⟨n8, 76, none⟩ (.int .u64 (p : Int)) = w5 at *
  go_wp2_with fail
  refine (HIN.out w5 HM5.out.kt HM5.out.inp).mono ?_
  rintro e w6 ⟨rfl, hb6⟩
  have H86 := Lib.hid (H85.out.below hb6 H85.out.lt)
  have H76 := Lib.hid (H75.out.below hb6 H75.out.lt)
  have HM6 := Lib.hid (HM5.out.since hb6)
  clear hb6 HIN H85 H75 HM5
  obtain ⟨hb2, hz1, hz2, hsz⟩ := made2K w6 Z Z 29 29
  have hx1 := setRow_heap _ w6.heap.size _ (kyRow C) _ _ hz1
  have hx2 := (setRow_other _ w6.heap.size (w6.heap.size + 1) (kyRow C) (by omega)).trans hz2
  have hx3 := setRow_heap _ (w6.heap.size + 1) _ (kyRow S) _ _ hx2
  have hx4 := (setRow_other _ (w6.heap.size + 1) w6.heap.size (kyRow S) (by omega)).trans hx1
  have hb4 := below_setRow (below_setRow hb2 (Nat.le_refl _) (kyRow C)) (Nat.le_succ _) (kyRow S)
  have hm7 := HM6.out.since hb4
  have h87 := H86.out.below hb4 H86.out.lt
  have h77 := H76.out.below hb4 H76.out.lt
  have HX1 := Lib.hid hz1
  have HX2 := Lib.hid hx2
  have HX3 := Lib.hid hx3
  have HX4 := Lib.hid hx4
  have HM7 := Lib.hid hm7
  have H87 := Lib.hid h87
  have H77 := Lib.hid h77
  clear hb2 hz1 hz2 hsz hx1 hx2 hx3 hx4 hb4 hm7 h87 h77 HM6 H86 H76
  go_upto_region 9 with (first
    | (refine wpList_allocZ rfl 29 rfl Z (HZ0.out _) ?_; rw [show (w6.alloc (.cells Z 29)).heap.size = w6.heap.size + 1 by simp])
    | (refine wpList_allocZ rfl 29 rfl Z (HZ0.out _) ?_)
    | (refine wpList_store_row rfl 29 (.tmp 9) (.tmp 24) rfl w6.heap.size (kyRow C) rfl rfl _ _ HX1.out (info_kyRow HOC.out) (by rw [HZS.out, HOC.out.size]) (kyRow_one _) ?_)
    | (refine wpList_store_row rfl 29 (.tmp 10) (.tmp 25) rfl (w6.heap.size + 1) (kyRow S) rfl rfl _ _ HX2.out (info_kyRow HOS.out) (by rw [HZS.out, HOS.out.size]) (kyRow_one _) ?_))
  obtain ⟨n9, hn9⟩ : ∃ g, g = w6.heap.size := ⟨_, rfl⟩
  rw [← hn9] at HX3 HX4 HM7 H87 H77
  rw [← hn9]
  generalize (((w6.alloc (.cells Z 29)).alloc (.cells Z 29)).setRow n9 (kyRow C)).setRow (n9 + 1) (kyRow S) = W at *
  obtain ⟨n10, hn10⟩ : ∃ g, g = n9 + 1 := ⟨_, rfl⟩
  rw [← hn10] at HX3
  rw [← hn10]
  have j9 : Wh W n9 29 (kyRow C) := HX4.out
  have j10 : Wh W n10 29 (kyRow S) := HX3.out
  have hdr : Below W.heap.size W W.drew := (Below.refl _ _).drew
  have k9 := j9.below hdr j9.lt
  have k10 := j10.below hdr j10.lt
  have k8 := H87.out.below hdr H87.out.lt
  have k7 := H77.out.below hdr H77.out.lt
  have hm0 := HM7.out.since hdr
  clear j9 j10 hdr
  clear HX1 HX2 HX3 HX4 HM7 H87 H77 hn9 hn10 hwn8 hw7 hrn8 hn78 HP HZ0 HZS
  refine wp_region_held_drew (S := fun w' => SinceK W.drew w') (by kernel_rfl) (SinceK.self _) (fun _ => ?_)
  generalize W.drew = w0 at *
  have l7 := k7.lt
  have l8 := k8.lt
  have l9 := k9.lt
  have l10 := k10.lt
  have lr := hm0.box.lt
  have r7 := ky_row k7
  have r8 := ky_row k8
  have r9 := ky_row k9
  have r10 := ky_row k10
  have rr : w0.rangeAt r 0 (sec.map cell8) := by have := row_rangeS hm0.box; rwa [bRow_list] at this
  clear k7 k8 k9 k10
  refine wpAnyH_take (i := 0) (v := .agg (kyRow K)) (List.getElem?_toArray.trans rfl) (by kernel_rfl) (by kernel_rfl) (by kernel_rfl) (fun _ _ _ h => h) (yieldsIf_load_mid (by rfl) 29 (.tmp 7) rfl n7 0 rfl (kyL K) _ (fun w' hS => SinceK.range hS r7 l7) Tryd.underlying29 rfl (info_kyL HOK.out)) (SinceK.self _) ?_
  refine act_normS (by simp only [Act.put, List.setIfInBounds_toArray, List.set_cons_zero, List.set_cons_succ]; rfl) ?_
  refine wpAnyH_take (i := 1) (v := .agg (bRow sec)) (List.getElem?_toArray.trans rfl) (by kernel_rfl) (by kernel_rfl) (by kernel_rfl) (fun _ _ _ h => h) (yieldsIf_load_mid (by rfl) 22 (.tmp 3) rfl r 0 rfl (sec.map cell8) _ (fun w' hS => SinceK.range hS rr lr) Tryd.underlying22 rfl (by rw [List.length_map, HSEC.out]; exact info_k32)) (SinceK.self _) ?_
  refine act_normS (by simp only [Act.put, List.setIfInBounds_toArray, List.set_cons_zero, List.set_cons_succ]; rfl) ?_
  refine wpAnyH_ready (rs := [2]) (by kernel_rfl) (by simp) (AllReadyH.cons (List.getElem?_toArray.trans rfl) (fun K' hK => ?_) AllReadyH.nil)
  refine wanted_goS rfl ?_
  go_simp
  refine (HRO.out w0).mono ?_
  rintro e v1 ⟨rfl, hb1⟩
  have hm1 := hm0.since hb1
  have hS1 : SinceK w0 v1 := SinceK.trans (SinceK.self _) hb1
  clear hb1
  refine hK.out _ _ hS1 (fun _ => ?_)
  clear hK K'
  refine wpAnyH_take (i := 3) (v := .bool true) (List.getElem?_toArray.trans rfl) (by kernel_rfl) (by kernel_rfl) (by kernel_rfl) (fun _ _ _ h => h) (yields_eqlK (by rfl) _ _ _ _ rfl _ _ rfl rfl (by kernel_rfl) EQK.out) hS1 ?_
  refine act_normS (by simp only [Act.put, List.setIfInBounds_toArray, List.set_cons_zero, List.set_cons_succ]; rfl) ?_
  refine wpAnyH_take (i := 4) (v := .bool true) (List.getElem?_toArray.trans rfl) (by kernel_rfl) (by kernel_rfl) (by kernel_rfl) (fun _ _ _ h => h) (.inl ⟨rfl, fun w' hS => rfl⟩) hS1 ?_
  refine act_normS (by simp only [Act.put, List.setIfInBounds_toArray, List.set_cons_zero, List.set_cons_succ]; rfl) ?_
  refine wpAnyH_take (i := 5) (v := .agg (kyRow P)) (List.getElem?_toArray.trans rfl) (by kernel_rfl) (by kernel_rfl) (by kernel_rfl) (fun _ _ _ h => h) (yieldsIf_load_mid (by rfl) 29 (.tmp 8) rfl n8 0 rfl (kyL P) _ (fun w' hS => SinceK.range hS r8 l8) Tryd.underlying29 rfl (info_kyL HOP.out)) hS1 ?_
  refine act_normS (by simp only [Act.put, List.setIfInBounds_toArray, List.set_cons_zero, List.set_cons_succ]; rfl) ?_
  refine wpAnyH_take (i := 7) (v := .agg (kyRow P)) (List.getElem?_toArray.trans rfl) (by kernel_rfl) (by kernel_rfl) (by kernel_rfl) (fun _ _ _ h => h) (yieldsIf_load_mid (by rfl) 29 (.tmp 8) rfl n8 0 rfl (kyL P) _ (fun w' hS => SinceK.range hS r8 l8) Tryd.underlying29 rfl (info_kyL HOP.out)) hS1 ?_
  refine act_normS (by simp only [Act.put, List.setIfInBounds_toArray, List.set_cons_zero, List.set_cons_succ]; rfl) ?_
  refine wpAnyH_ready (rs := [6]) (by kernel_rfl) (by simp) (AllReadyH.cons (List.getElem?_toArray.trans rfl) (fun K' hK => ?_) AllReadyH.nil)
  refine wanted_goS rfl ?_
  go_simp
  refine (HNX.out v1 hm1.kt).mono ?_
  rintro e v2 ⟨rfl, hb2⟩
  have hm2 := hm1.since hb2
  have hS2 : SinceK w0 v2 := SinceK.trans hS1 hb2
  clear hb2
  refine hK.out _ _ hS2 (fun _ => ?_)
  clear hK K'
  refine wpAnyH_ready (rs := [8]) (by kernel_rfl) (by simp) (AllReadyH.cons (List.getElem?_toArray.trans rfl) (fun K' hK => ?_) AllReadyH.nil)
  refine wanted_goS rfl ?_
  go_simp
  refine (HRN.out v2).mono ?_
  rintro e v3 ⟨rfl, hb3⟩
  have hm3 := hm2.since hb3
  have hS3 : SinceK w0 v3 := SinceK.trans hS2 hb3
  clear hb3
  refine hK.out _ _ hS3 (fun _ => ?_)
  clear hK K'
  refine wpAnyH_take (i := 9) (v := .bool true) (List.getElem?_toArray.trans rfl) (by kernel_rfl) (by kernel_rfl) (by kernel_rfl) (fun _ _ _ h => h) (yields_eqlK (by rfl) _ _ _ _ rfl _ _ rfl rfl (by kernel_rfl) EQN.out) hS3 ?_
  refine act_normS (by simp only [Act.put, List.setIfInBounds_toArray, List.set_cons_zero, List.set_cons_succ]; rfl) ?_
  refine wpAnyH_take (i := 10) (v := .bool true) (List.getElem?_toArray.trans rfl) (by kernel_rfl) (by kernel_rfl) (by kernel_rfl) (fun _ _ _ h => h) (.inl ⟨rfl, fun w' hS => by simp [go_sem]⟩) hS3 ?_
  refine act_normS (by simp only [Act.put, List.setIfInBounds_toArray, List.set_cons_zero, List.set_cons_succ]; rfl) ?_
  refine wpAnyH_take (i := 11) (v := .bool true) (List.getElem?_toArray.trans rfl) (by kernel_rfl) (by kernel_rfl) (by kernel_rfl) (fun _ _ _ h => h) (.inl ⟨rfl, fun w' hS => rfl⟩) hS3 ?_
  refine act_normS (by simp only [Act.put, List.setIfInBounds_toArray, List.set_cons_zero, List.set_cons_succ]; rfl) ?_
  refine wpAnyH_take (i := 12) (v := .agg (kyRow C)) (List.getElem?_toArray.trans rfl) (by kernel_rfl) (by kernel_rfl) (by kernel_rfl) (fun _ _ _ h => h) (yieldsIf_load_mid (by rfl) 29 (.tmp 9) rfl n9 0 rfl (kyL C) _ (fun w' hS => SinceK.range hS r9 l9) Tryd.underlying29 rfl (info_kyL HOC.out)) hS3 ?_
  refine act_normS (by simp only [Act.put, List.setIfInBounds_toArray, List.set_cons_zero, List.set_cons_succ]; rfl) ?_
  refine wpAnyH_take (i := 13) (v := .slice A m c) (List.getElem?_toArray.trans rfl) (by kernel_rfl) (by kernel_rfl) (by kernel_rfl) (fun _ _ _ h => h) (.inl ⟨rfl, fun w' hS => rfl⟩) hS3 ?_
  refine act_normS (by simp only [Act.put, List.setIfInBounds_toArray, List.set_cons_zero, List.set_cons_succ]; rfl) ?_
  refine wpAnyH_ready (rs := [14]) (by kernel_rfl) (by simp) (AllReadyH.cons (List.getElem?_toArray.trans rfl) (fun K' hK => ?_) AllReadyH.nil)
  refine wanted_goS rfl ?_
  go_simp
  refine (HRC.out v3 hm3.inp).mono ?_
  rintro e v4 ⟨rfl, hb4⟩
  have hm4 := hm3.since hb4
  have hS4 : SinceK w0 v4 := SinceK.trans hS3 hb4
  clear hb4
  refine hK.out _ _ hS4 (fun _ => ?_)
  clear hK K'
  refine wpAnyH_take (i := 15) (v := .bool true) (List.getElem?_toArray.trans rfl) (by kernel_rfl) (by kernel_rfl) (by kernel_rfl) (fun _ _ _ h => h) (yields_eqlK (by rfl) _ _ _ _ rfl _ _ rfl rfl (by kernel_rfl) EQC.out) hS4 ?_
  refine act_normS (by simp only [Act.put, List.setIfInBounds_toArray, List.set_cons_zero, List.set_cons_succ]; rfl) ?_
  refine wpAnyH_take (i := 16) (v := .bool true) (List.getElem?_toArray.trans rfl) (by kernel_rfl) (by kernel_rfl) (by kernel_rfl) (fun _ _ _ h => h) (.inl ⟨rfl, fun w' hS => by simp [go_sem]⟩) hS4 ?_
  refine act_normS (by simp only [Act.put, List.setIfInBounds_toArray, List.set_cons_zero, List.set_cons_succ]; rfl) ?_
  refine wpAnyH_take (i := 17) (v := .bool true) (List.getElem?_toArray.trans rfl) (by kernel_rfl) (by kernel_rfl) (by kernel_rfl) (fun _ _ _ h => h) (.inl ⟨rfl, fun w' hS => rfl⟩) hS4 ?_
  refine act_normS (by simp only [Act.put, List.setIfInBounds_toArray, List.set_cons_zero, List.set_cons_succ]; rfl) ?_
  refine wpAnyH_take (i := 18) (v := .agg (kyRow S)) (List.getElem?_toArray.trans rfl) (by kernel_rfl) (by kernel_rfl) (by kernel_rfl) (fun _ _ _ h => h) (yieldsIf_load_mid (by rfl) 29 (.tmp 10) rfl n10 0 rfl (kyL S) _ (fun w' hS => SinceK.range hS r10 l10) Tryd.underlying29 rfl (info_kyL HOS.out)) hS4 ?_
  refine act_normS (by simp only [Act.put, List.setIfInBounds_toArray, List.set_cons_zero, List.set_cons_succ]; rfl) ?_
  refine wpAnyH_take (i := 19) (v := .slice A m c) (List.getElem?_toArray.trans rfl) (by kernel_rfl) (by kernel_rfl) (by kernel_rfl) (fun _ _ _ h => h) (.inl ⟨rfl, fun w' hS => rfl⟩) hS4 ?_
  refine act_normS (by simp only [Act.put, List.setIfInBounds_toArray, List.set_cons_zero, List.set_cons_succ]; rfl) ?_
  refine wpAnyH_ready (rs := [20]) (by kernel_rfl) (by simp) (AllReadyH.cons (List.getElem?_toArray.trans rfl) (fun K' hK => ?_) AllReadyH.nil)
  refine wanted_goS rfl ?_
  go_simp
  refine (HRS.out v4 hm4.inp).mono ?_
  rintro e v5 ⟨rfl, hb5⟩
  have hm5 := hm4.since hb5
  have hS5 : SinceK w0 v5 := SinceK.trans hS4 hb5
  clear hb5
  refine hK.out _ _ hS5 (fun _ => ?_)
  clear hK K'
  refine wpAnyH_take (i := 21) (v := .bool true) (List.getElem?_toArray.trans rfl) (by kernel_rfl) (by kernel_rfl) (by kernel_rfl) (fun _ _ _ h => h) (yields_eqlK (by rfl) _ _ _ _ rfl _ _ rfl rfl (by kernel_rfl) EQS.out) hS5 ?_
  refine act_normS (by simp only [Act.put, List.setIfInBounds_toArray, List.set_cons_zero, List.set_cons_succ]; rfl) ?_
  refine wpAnyH_take (i := 22) (v := .bool true) (List.getElem?_toArray.trans rfl) (by kernel_rfl) (by kernel_rfl) (by kernel_rfl) (fun _ _ _ h => h) (.inl ⟨rfl, fun w' hS => by simp [go_sem]⟩) hS5 ?_
  refine act_normS (by simp only [Act.put, List.setIfInBounds_toArray, List.set_cons_zero, List.set_cons_succ]; rfl) ?_
  refine wpAnyH_take (i := 23) (v := .bool true) (List.getElem?_toArray.trans rfl) (by kernel_rfl) (by kernel_rfl) (by kernel_rfl) (fun _ _ _ h => h) (.inl ⟨rfl, fun w' hS => rfl⟩) hS5 ?_
  refine act_normS (by simp only [Act.put, List.setIfInBounds_toArray, List.set_cons_zero, List.set_cons_succ]; rfl) ?_
  refine wpAnyH_take (i := 24) (v := .agg (bRow sec)) (List.getElem?_toArray.trans rfl) (by kernel_rfl) (by kernel_rfl) (by kernel_rfl) (fun _ _ _ h => h) (yieldsIf_load_mid (by rfl) 22 (.tmp 3) rfl r 0 rfl (sec.map cell8) _ (fun w' hS => SinceK.range hS rr lr) Tryd.underlying22 rfl (by rw [List.length_map, HSEC.out]; exact info_k32)) hS5 ?_
  refine act_normS (by simp only [Act.put, List.setIfInBounds_toArray, List.set_cons_zero, List.set_cons_succ]; rfl) ?_
  refine wpAnyH_take (i := 25) (v := .slice A m c) (List.getElem?_toArray.trans rfl) (by kernel_rfl) (by kernel_rfl) (by kernel_rfl) (fun _ _ _ h => h) (.inl ⟨rfl, fun w' hS => rfl⟩) hS5 ?_
  refine act_normS (by simp only [Act.put, List.setIfInBounds_toArray, List.set_cons_zero, List.set_cons_succ]; rfl) ?_
  refine wpAnyH_take (i := 27) (v := .agg (bRow sec)) (List.getElem?_toArray.trans rfl) (by kernel_rfl) (by kernel_rfl) (by kernel_rfl) (fun _ _ _ h => h) (yieldsIf_load_mid (by rfl) 22 (.tmp 3) rfl r 0 rfl (sec.map cell8) _ (fun w' hS => SinceK.range hS rr lr) Tryd.underlying22 rfl (by rw [List.length_map, HSEC.out]; exact info_k32)) hS5 ?_
  refine act_normS (by simp only [Act.put, List.setIfInBounds_toArray, List.set_cons_zero, List.set_cons_succ]; rfl) ?_
  refine wpAnyH_take (i := 28) (v := .slice A m c) (List.getElem?_toArray.trans rfl) (by kernel_rfl) (by kernel_rfl) (by kernel_rfl) (fun _ _ _ h => h) (.inl ⟨rfl, fun w' hS => rfl⟩) hS5 ?_
  refine act_normS (by simp only [Act.put, List.setIfInBounds_toArray, List.set_cons_zero, List.set_cons_succ]; rfl) ?_
  refine wpAnyH_ready (rs := [26]) (by kernel_rfl) (by simp) (AllReadyH.cons (List.getElem?_toArray.trans rfl) (fun K' hK => ?_) AllReadyH.nil)
  refine wanted_goS rfl ?_
  go_simp
  refine (HTK.out v5 hm5.kt hm5.inp).mono ?_
  rintro e v6 ⟨rfl, hb6⟩
  have hm6 := hm5.since hb6
  have hS6 : SinceK w0 v6 := SinceK.trans hS5 hb6
  clear hb6
  refine hK.out _ _ hS6 (fun _ => ?_)
  clear hK K'
  refine wpAnyH_ready (rs := [29]) (by kernel_rfl) (by simp) (AllReadyH.cons (List.getElem?_toArray.trans rfl) (fun K' hK => ?_) AllReadyH.nil)
  refine wanted_goS rfl ?_
  go_simp
  refine (HRT.out v6 hm6.inp).mono ?_
  rintro e v7 ⟨rfl, hb7⟩
  have hm7 := hm6.since hb7
  have hS7 : SinceK w0 v7 := SinceK.trans hS6 hb7
  clear hb7
  refine hK.out _ _ hS7 (fun _ => ?_)
  clear hK K'
  refine wpAnyH_take (i := 30) (v := .bool true) (List.getElem?_toArray.trans rfl) (by kernel_rfl) (by kernel_rfl) (by kernel_rfl) (fun _ _ _ h => h) (yields_eqlK (by rfl) _ _ _ _ rfl _ _ rfl rfl (by kernel_rfl) EQT.out) hS7 ?_
  refine act_normS (by simp only [Act.put, List.setIfInBounds_toArray, List.set_cons_zero, List.set_cons_succ]; rfl) ?_
  refine wpAnyH_take (i := 31) (v := .bool true) (List.getElem?_toArray.trans rfl) (by kernel_rfl) (by kernel_rfl) (by kernel_rfl) (fun _ _ _ h => h) (.inl ⟨rfl, fun w' hS => by simp [go_sem]⟩) hS7 ?_
  refine act_normS (by simp only [Act.put, List.setIfInBounds_toArray, List.set_cons_zero, List.set_cons_succ]; rfl) ?_
  refine wpAnyH_take (i := 32) (v := .bool true) (List.getElem?_toArray.trans rfl) (by kernel_rfl) (by kernel_rfl) (by kernel_rfl) (fun _ _ _ h => h) (.inl ⟨rfl, fun w' hS => rfl⟩) hS7 ?_
  refine act_normS (by simp only [Act.put, List.setIfInBounds_toArray, List.set_cons_zero, List.set_cons_succ]; rfl) ?_
  refine wpAnyH_done (by kernel_rfl) ?_ _
  have HBF := Lib.hid hm7.bel
  go_wp2_with fail
  go_ret
  exact ⟨rfl, HBF.out⟩

theorem makes_any (sec cid : List UInt8) (A : Option Addr) (m c p : Nat) (w : World) (hK : Kt w) (hsec : sec.length = 32) (hl : cid.length = m) (hlc : m ≤ c) (hcm : c ≤ maxLen) (hs : Sl w w.heap.size A cid) (hp : p < 18446744073709551616) :
    Calls Tryd.prog 3 #[.agg (bRow sec), .slice A m c, .int .u64 (p : Int)] w fun e w' => e = .returned (.bool true) ∧ Below w.heap.size w w' := by
  by_cases h : 300 < m
  · exact makes_out sec A m c p w hK hsec h
  · exact makes_in sec cid A m c p w hK hsec hl hlc hcm hs (by omega) hp
end Go.Proofs.YtblclinfcdalaaaDoor
