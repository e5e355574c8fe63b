/-
  The walk through the statement KdfExpands.
-/
import Derived.Test.YtjbhnfgjkibmfaaDoorKLawM
namespace Go.Proofs.YtjbhnfgjkibmfaaDoor
open Go.RowKit
set_option linter.unusedVariables false

/-- What is held may be made more on the way. -/
theorem wpAnyH_more {P : Program} {md : Region.Mode} {ops : Array Oper} {Q : Exit → Act → World → Prop} {S S' : World → Prop} (hSS : ∀ w, S' w → S w) :
    ∀ (fuel : Nat) (listed : Array Bool) (a : Act) (w : World), wpAnyH P md ops Q S' fuel listed a w → wpAnyH P md ops Q S fuel listed a w
  | 0, _, _, _, h => h
  | fuel + 1, _, _, _, h => ⟨h.1, fun i hi => wpOp_mono (fun a' w' h' => ⟨hSS _ h'.1, wpAnyH_more hSS fuel _ a' w' h'.2⟩) (h.2 i hi)⟩
/-- All that stood at a world stands. -/
def Since (w0 wr : World) : Prop := Below w0.heap.size w0 wr
theorem Since.self (w : World) : Since w w := Below.refl _ _
theorem Since.trans {a b c : World} (h : Since a b) (k : Since b c) : Since a c := Below.trans h (k.mono h.size)
theorem Since.of {a b : World} (h : Below a.heap.size a b) : Since a b := h
theorem Since.sl {a b : World} (h : Since a b) {B : Nat} {A : Option Addr} {l : List UInt8} (hs : Sl a B A l) (hB : B ≤ a.heap.size) : Sl b B A l := Sv.below hs (Below.mono h hB)
theorem Since.sl' {a b : World} (h : Since a b) {A : Option Addr} {l : List UInt8} (hs : Sl a a.heap.size A l) : Sl b b.heap.size A l := (Sv.below hs h).keep h.size (fun _ _ => rfl)
theorem Since.wh {a b : World} (h : Since a b) {g : Nat} {t : TypeId} {cs : Array Value} (hw : Wh a g t cs) : Wh b g t cs := hw.below h hw.lt
theorem Since.kt {a b : World} (h : Since a b) {ks : List W32} (hK : KT a ks) (hKb : 0 < a.heap.size) : KT b ks := hK.below hKb h

/-- What the calls of a law want of the world. -/
structure EC (w wr : World) (r : Nat) (sec info : List UInt8) (A : Option Addr) : Prop where
  bel : Below w.heap.size w wr
  box : Wh wr r 27 (bRow sec)
  inp : Sl wr wr.heap.size A info
  kt : KT wr kW
  kb : 0 < wr.heap.size
theorem EC.since {w a b : World} {r : Nat} {sec info : List UInt8} {A : Option Addr} (h : EC w a r sec info A) (hb : Below a.heap.size a b) : EC w b r sec info A :=
  ⟨h.bel.trans (hb.mono h.bel.size), Since.wh hb h.box, Since.sl' hb h.inp, Since.kt hb h.kt h.kb, Nat.lt_of_lt_of_le h.kb hb.size⟩

set_option maxRecDepth 100000 in
set_option maxHeartbeats 800000 in
theorem exps_out (sec : List UInt8) (A : Option Addr) (m c : Nat) (S : ByteArray) (n : Int) (w : World) (hK : KT w kW) (hKb : 0 < w.heap.size) (hsec : sec.length = 32)
    (ho : 1000 < m ∨ 1000 < S.size ∨ (600 < n ∧ n ≤ 8160)) :
    Calls Tryd.prog 4 #[.agg (bRow sec), .slice A m c, .string S, .int .i64 n] w fun e w' => e = .returned (.bool true) ∧ Below w.heap.size w w' := by
  have hb0 : Below w.heap.size w (w.alloc (.cells (bRow sec) 27)) := (Below.refl _ _).alloc (Nat.le_refl _) _
  have HKN := Lib.hid (known_any (w.alloc (.cells (bRow sec) 27)) (hK.below hKb hb0) (Nat.lt_of_lt_of_le hKb hb0.size))
  have HB0 := Lib.hid hb0
  have HSZ : (bRow sec).size = 32 := by rw [bRow_size, hsec]
  have hq : (∃ _ : decide ((1000 : Int) < (m : Int)) = true, True) ∨ (∃ _ : decide ((1000 : Int) < (m : Int)) = false, ∃ _ : decide ((1000 : Int) < (S.size : Int)) = true, True)
      ∨ (∃ _ : decide ((1000 : Int) < (m : Int)) = false, ∃ _ : decide ((1000 : Int) < (S.size : Int)) = false, ∃ _ : decide (600 < n) = true, ∃ _ : decide (n ≤ 8160) = true, True) := by
    by_cases a1 : 1000 < m
    · exact .inl ⟨decide_eq_true (by omega), trivial⟩
    by_cases a2 : 1000 < S.size
    · exact .inr (.inl ⟨decide_eq_false (by omega), decide_eq_true (by omega), trivial⟩)
    · exact .inr (.inr ⟨decide_eq_false (by omega), decide_eq_false (by omega), decide_eq_true (by omega), decide_eq_true (by omega), trivial⟩)
  clear ho hK hb0
  rcases hq with ⟨h1, _⟩ | ⟨h1, h2, _⟩ | ⟨h1, h2, h3, h4, _⟩
  all_goals
    go_enter Tryd.func4, Tryd.ntmps4
    go_wp2_with (go_at_call 6; refine HKN.out.mono ?_; rintro e w1 ⟨rfl, hb1⟩; have HB1 := Lib.hid (HB0.out.trans (hb1.mono HB0.out.size)); clear hb1)
    go_ret
    exact ⟨rfl, HB1.out⟩

set_option maxRecDepth 100000 in
set_option maxHeartbeats 1600000 in
theorem exps_in (sec info lab : List UInt8) (A : Option Addr) (m c : Nat) (n : Int) (w : World) (hK : KT w kW) (hKb : 0 < w.heap.size) (hsec : sec.length = 32)
    (hl : info.length = m) (hlc : m ≤ c) (hcm : c ≤ maxLen) (hs : Sl w w.heap.size A info) (h1 : m ≤ 1000) (h2 : lab.length ≤ 1000) (h3 : n ≤ 600 ∨ 8160 < n) :
    Calls Tryd.prog 4 #[.agg (bRow sec), .slice A m c, .string (strB lab), .int .i64 n] w fun e w' => e = .returned (.bool true) ∧ Below w.heap.size w w' := by
  have hb0 : Below w.heap.size w (w.alloc (.cells (bRow sec) 27)) := (Below.refl _ _).alloc (Nat.le_refl _) _
  have hw0 : Wh (w.alloc (.cells (bRow sec) 27)) w.heap.size 27 (bRow sec) := Wh.new _ _ _
  have HKN := Lib.hid (known_any (w.alloc (.cells (bRow sec) 27)) (hK.below hKb hb0) (Nat.lt_of_lt_of_le hKb hb0.size))
  have HSEC := Deep.mk hsec
  have HSZ : (bRow sec).size = 32 := by rw [bRow_size, hsec]
  have HL := Deep.mk hl
  have HS := Lib.hid hs
  have HK := Lib.hid hK
  have HB0 := Lib.hid hb0
  have HW0 := Lib.hid hw0
  obtain ⟨S, hS⟩ : ∃ S, S = strB lab := ⟨_, rfl⟩
  have hSz : S.size = lab.length := by rw [hS]; rfl
  rw [← hS]
  have HSS := Deep.mk hS
  have t1 : decide ((1000 : Int) < (m : Int)) = false := decide_eq_false (by omega)
  have t2 : decide ((1000 : Int) < (S.size : Int)) = false := decide_eq_false (by omega)
  have hq : (∃ _ : decide (600 < n) = false, True) ∨ (∃ _ : decide (600 < n) = true, ∃ _ : decide (n ≤ 8160) = false, True) := by
    by_cases a : 600 < n
    · exact .inr ⟨decide_eq_true a, decide_eq_false (by omega), trivial⟩
    · exact .inl ⟨decide_eq_false a, trivial⟩
  have hla := fun (w' : World) (k1 : KT w' kW) (k2 : 0 < w'.heap.size) (k3 : Sl w' w'.heap.size A info) => label_any kW sec lab info A m c n w' kW_len k1 k2 hsec hl hlc hcm k3 (by omega) (by omega)
  have hra := fun (w' : World) (k3 : Sl w' w'.heap.size A info) => rlabel_any sec lab info A m c n w' hsec hl hlc hcm k3 (by omega) (by omega)
  rw [← hS] at hla hra
  have HLA := Lib.hid hla
  have HRA := Lib.hid hra
  obtain ⟨E, hE⟩ : ∃ E, E = expI kW sec info n := ⟨_, rfl⟩
  have HE := Deep.mk hE
  obtain ⟨F, hF⟩ : ∃ F, F = labI kW sec lab info n := ⟨_, rfl⟩
  have HF := Deep.mk hF
  clear hl hs hK hsec h3 hb0 hw0 hS hSz hla hra hE hF
  rcases hq with ⟨t3, _⟩ | ⟨t3, t4, _⟩
  all_goals
    go_enter Tryd.func4, Tryd.ntmps4
    go_upto_region 5 with (go_at_call 6; refine HKN.out.mono ?_; rintro e w1 ⟨rfl, hb1⟩; have HB1 := Lib.hid hb1; clear hb1)
    obtain ⟨r, hr⟩ : ∃ r, r = w.heap.size := ⟨_, rfl⟩
    have HWR : Hid (Wh w1 r 27 (bRow sec)) := Lib.hid (by rw [hr]; exact HW0.out.below HB1.out HW0.out.lt)
    have HBW := Lib.hid (HB0.out.trans (HB1.out.mono HB0.out.size))
    rw [← hr]
    have hE_w1 : EC w w1.drew r sec info A := ⟨HBW.out.drew, HWR.out, (HS.out.below HBW.out).keep HBW.out.size (fun _ _ => rfl), (HK.out.below hKb HBW.out : KT w1 kW), Nat.lt_of_lt_of_le hKb HBW.out.size⟩
    clear HKN HB1 HB0 HW0 HWR HBW HS HK hr
    refine wp_region_held_drew (S := fun w' => Since w1.drew w') (by kernel_rfl) (Since.self _) (fun _ => ?_)
    refine wpAnyH_take (i := 0) (v := .agg (bRow sec)) (List.getElem?_toArray.trans rfl) (by kernel_rfl) (by kernel_rfl) (by kernel_rfl) (fun _ _ _ h => h) (yieldsIf_load_mid (by rfl) 27 (.tmp 4) rfl r 0 rfl (bRow sec).toList _ (fun w' hS => row_rangeS (Since.wh hS hE_w1.box)) Tryd.underlying27 rfl (by rw [Array.length_toList]; exact info_bRow HSEC.out)) (Since.self _) ?_
    refine act_normS (by simp only [Act.put, List.setIfInBounds_toArray, List.set_cons_zero, List.set_cons_succ]; rfl) ?_
    refine wpAnyH_take (i := 1) (v := .slice A m c) (List.getElem?_toArray.trans rfl) (by kernel_rfl) (by kernel_rfl) (by kernel_rfl) (fun _ _ _ h => h) (.inl ⟨rfl, fun w' hS => rfl⟩) (Since.self _) ?_
    refine act_normS (by simp only [Act.put, List.setIfInBounds_toArray, List.set_cons_zero, List.set_cons_succ]; rfl) ?_
    refine wpAnyH_take (i := 2) (v := .int .i64 n) (List.getElem?_toArray.trans rfl) (by kernel_rfl) (by kernel_rfl) (by kernel_rfl) (fun _ _ _ h => h) (.inl ⟨rfl, fun w' hS => rfl⟩) (Since.self _) ?_
    refine act_normS (by simp only [Act.put, List.setIfInBounds_toArray, List.set_cons_zero, List.set_cons_succ]; rfl) ?_
    refine wpAnyH_take (i := 5) (v := .agg (bRow sec)) (List.getElem?_toArray.trans rfl) (by kernel_rfl) (by kernel_rfl) (by kernel_rfl) (fun _ _ _ h => h) (yieldsIf_load_mid (by rfl) 27 (.tmp 4) rfl r 0 rfl (bRow sec).toList _ (fun w' hS => row_rangeS (Since.wh hS hE_w1.box)) Tryd.underlying27 rfl (by rw [Array.length_toList]; exact info_bRow HSEC.out)) (Since.self _) ?_
    refine act_normS (by simp only [Act.put, List.setIfInBounds_toArray, List.set_cons_zero, List.set_cons_succ]; rfl) ?_
    refine wpAnyH_take (i := 6) (v := .slice A m c) (List.getElem?_toArray.trans rfl) (by kernel_rfl) (by kernel_rfl) (by kernel_rfl) (fun _ _ _ h => h) (.inl ⟨rfl, fun w' hS => rfl⟩) (Since.self _) ?_
    refine act_normS (by simp only [Act.put, List.setIfInBounds_toArray, List.set_cons_zero, List.set_cons_succ]; rfl) ?_
    refine wpAnyH_take (i := 7) (v := .int .i64 n) (List.getElem?_toArray.trans rfl) (by kernel_rfl) (by kernel_rfl) (by kernel_rfl) (fun _ _ _ h => h) (.inl ⟨rfl, fun w' hS => rfl⟩) (Since.self _) ?_
    refine act_normS (by simp only [Act.put, List.setIfInBounds_toArray, List.set_cons_zero, List.set_cons_succ]; rfl) ?_
    refine wpAnyH_ready (rs := [3]) (by kernel_rfl) (by simp) (AllReadyH.cons (List.getElem?_toArray.trans rfl) (fun K' hK => ?_) AllReadyH.nil)
    refine wanted_goS rfl ?_
    go_simp
    refine (expand_any kW sec info A m c n w1.drew kW_len hE_w1.kt hE_w1.kb HSEC.out HL.out hlc hcm hE_w1.inp (by omega)).mono ?_
    rintro e w5 ⟨A_w5, c_w5, rfl, ha_w5, hc_w5, ho_w5, hb_w5⟩
    rw [← HE.out] at ha_w5 ho_w5
    rw [← HE.out]
    have hs_w5 : Sl w5 w5.heap.size A_w5 E := Sv.of_own ho_w5
    have hE_w5 := hE_w1.since hb_w5
    refine hK.out _ _ (Since.of hb_w5) (fun _ => ?_)
    clear hK K'
    refine wpAnyH_more (S' := fun w' => Since w5 w') (fun w' h => Since.trans hb_w5 h) _ _ _ _ ?_
    refine wpAnyH_take (i := 4) (v := .string (strB E)) (List.getElem?_toArray.trans rfl) (by kernel_rfl) (by kernel_rfl) (by kernel_rfl) (fun _ _ _ h => h) (yieldsIf_strS rfl 22 9 5 (.tmp 30) rfl Tryd.underlying22 Tryd.underlying5 Tryd.underlying9 w5.heap.size A_w5 E.length c_w5 E rfl rfl (fun w' hS => Since.sl hS hs_w5 (Nat.le_refl _))) (Since.self _) ?_
    refine act_normS (by simp only [Act.put, List.setIfInBounds_toArray, List.set_cons_zero, List.set_cons_succ]; rfl) ?_
    refine wpAnyH_ready (rs := [8]) (by kernel_rfl) (by simp) (AllReadyH.cons (List.getElem?_toArray.trans rfl) (fun K' hK => ?_) AllReadyH.nil)
    refine wanted_goS rfl ?_
    go_simp
    refine (rexpand_any sec info A m c n w5 HSEC.out HL.out hlc hcm hE_w5.inp (by omega)).mono ?_
    rintro e w6 ⟨A_w6, c_w6, rfl, ha_w6, hc_w6, ho_w6, hb_w6⟩
    rw [← HE.out] at ha_w6 ho_w6
    rw [← HE.out]
    have hs_w6 : Sl w6 w6.heap.size A_w6 E := ho_w6
    have hE_w6 := hE_w5.since hb_w6
    refine hK.out _ _ (Since.of hb_w6) (fun _ => ?_)
    clear hK K'
    refine wpAnyH_more (S' := fun w' => Since w6 w') (fun w' h => Since.trans hb_w6 h) _ _ _ _ ?_
    refine wpAnyH_take (i := 9) (v := .string (strB E)) (List.getElem?_toArray.trans rfl) (by kernel_rfl) (by kernel_rfl) (by kernel_rfl) (fun _ _ _ h => h) (yieldsIf_strS rfl 22 9 5 (.tmp 35) rfl Tryd.underlying22 Tryd.underlying5 Tryd.underlying9 w6.heap.size A_w6 E.length c_w6 E rfl rfl (fun w' hS => Since.sl hS hs_w6 (Nat.le_refl _))) (Since.self _) ?_
    refine act_normS (by simp only [Act.put, List.setIfInBounds_toArray, List.set_cons_zero, List.set_cons_succ]; rfl) ?_
    refine wpAnyH_ready (rs := [10]) (by kernel_rfl) (by simp) (AllReadyH.cons (List.getElem?_toArray.trans rfl) (fun K' hK => ?_) AllReadyH.nil)
    refine wanted_goS rfl ?_
    go_simp
    refine hK.out _ _ (Since.self _) (fun _ => ?_)
    clear hK K'
    refine wpAnyH_ready (rs := [11]) (by kernel_rfl) (by simp) (AllReadyH.cons (List.getElem?_toArray.trans rfl) (fun K' hK => ?_) AllReadyH.nil)
    refine wanted_goS rfl ?_
    go_simp
    refine hK.out _ _ (Since.self _) (fun _ => ?_)
    clear hK K'
    refine wpAnyH_take (i := 12) (v := .agg (bRow sec)) (List.getElem?_toArray.trans rfl) (by kernel_rfl) (by kernel_rfl) (by kernel_rfl) (fun _ _ _ h => h) (yieldsIf_load_mid (by rfl) 27 (.tmp 4) rfl r 0 rfl (bRow sec).toList _ (fun w' hS => row_rangeS (Since.wh hS hE_w6.box)) Tryd.underlying27 rfl (by rw [Array.length_toList]; exact info_bRow HSEC.out)) (Since.self _) ?_
    refine act_normS (by simp only [Act.put, List.setIfInBounds_toArray, List.set_cons_zero, List.set_cons_succ]; rfl) ?_
    refine wpAnyH_take (i := 13) (v := .string S) (List.getElem?_toArray.trans rfl) (by kernel_rfl) (by kernel_rfl) (by kernel_rfl) (fun _ _ _ h => h) (.inl ⟨rfl, fun w' hS => rfl⟩) (Since.self _) ?_
    refine act_normS (by simp only [Act.put, List.setIfInBounds_toArray, List.set_cons_zero, List.set_cons_succ]; rfl) ?_
    refine wpAnyH_take (i := 14) (v := .slice A m c) (List.getElem?_toArray.trans rfl) (by kernel_rfl) (by kernel_rfl) (by kernel_rfl) (fun _ _ _ h => h) (.inl ⟨rfl, fun w' hS => rfl⟩) (Since.self _) ?_
    refine act_normS (by simp only [Act.put, List.setIfInBounds_toArray, List.set_cons_zero, List.set_cons_succ]; rfl) ?_
    refine wpAnyH_take (i := 15) (v := .int .i64 n) (List.getElem?_toArray.trans rfl) (by kernel_rfl) (by kernel_rfl) (by kernel_rfl) (fun _ _ _ h => h) (.inl ⟨rfl, fun w' hS => rfl⟩) (Since.self _) ?_
    refine act_normS (by simp only [Act.put, List.setIfInBounds_toArray, List.set_cons_zero, List.set_cons_succ]; rfl) ?_
    refine wpAnyH_take (i := 18) (v := .agg (bRow sec)) (List.getElem?_toArray.trans rfl) (by kernel_rfl) (by kernel_rfl) (by kernel_rfl) (fun _ _ _ h => h) (yieldsIf_load_mid (by rfl) 27 (.tmp 4) rfl r 0 rfl (bRow sec).toList _ (fun w' hS => row_rangeS (Since.wh hS hE_w6.box)) Tryd.underlying27 rfl (by rw [Array.length_toList]; exact info_bRow HSEC.out)) (Since.self _) ?_
    refine act_normS (by simp only [Act.put, List.setIfInBounds_toArray, List.set_cons_zero, List.set_cons_succ]; rfl) ?_
    refine wpAnyH_take (i := 19) (v := .string S) (List.getElem?_toArray.trans rfl) (by kernel_rfl) (by kernel_rfl) (by kernel_rfl) (fun _ _ _ h => h) (.inl ⟨rfl, fun w' hS => rfl⟩) (Since.self _) ?_
    refine act_normS (by simp only [Act.put, List.setIfInBounds_toArray, List.set_cons_zero, List.set_cons_succ]; rfl) ?_
    refine wpAnyH_take (i := 20) (v := .slice A m c) (List.getElem?_toArray.trans rfl) (by kernel_rfl) (by kernel_rfl) (by kernel_rfl) (fun _ _ _ h => h) (.inl ⟨rfl, fun w' hS => rfl⟩) (Since.self _) ?_
    refine act_normS (by simp only [Act.put, List.setIfInBounds_toArray, List.set_cons_zero, List.set_cons_succ]; rfl) ?_
    refine wpAnyH_take (i := 21) (v := .int .i64 n) (List.getElem?_toArray.trans rfl) (by kernel_rfl) (by kernel_rfl) (by kernel_rfl) (fun _ _ _ h => h) (.inl ⟨rfl, fun w' hS => rfl⟩) (Since.self _) ?_
    refine act_normS (by simp only [Act.put, List.setIfInBounds_toArray, List.set_cons_zero, List.set_cons_succ]; rfl) ?_
    refine wpAnyH_ready (rs := [16]) (by kernel_rfl) (by simp) (AllReadyH.cons (List.getElem?_toArray.trans rfl) (fun K' hK => ?_) AllReadyH.nil)
    refine wanted_goS rfl ?_
    go_simp
    refine (HLA.out w6 hE_w6.kt hE_w6.kb hE_w6.inp).mono ?_
    rintro e w7 ⟨A_w7, c_w7, rfl, ha_w7, hc_w7, ho_w7, hb_w7⟩
    rw [← HF.out] at ha_w7 ho_w7
    rw [← HF.out]
    have hs_w7 : Sl w7 w7.heap.size A_w7 F := Sv.of_own ho_w7
    have hE_w7 := hE_w6.since hb_w7
    refine hK.out _ _ (Since.of hb_w7) (fun _ => ?_)
    clear hK K'
    refine wpAnyH_more (S' := fun w' => Since w7 w') (fun w' h => Since.trans hb_w7 h) _ _ _ _ ?_
    refine wpAnyH_take (i := 17) (v := .string (strB F)) (List.getElem?_toArray.trans rfl) (by kernel_rfl) (by kernel_rfl) (by kernel_rfl) (fun _ _ _ h => h) (yieldsIf_strS rfl 22 9 5 (.tmp 43) rfl Tryd.underlying22 Tryd.underlying5 Tryd.underlying9 w7.heap.size A_w7 F.length c_w7 F rfl rfl (fun w' hS => Since.sl hS hs_w7 (Nat.le_refl _))) (Since.self _) ?_
    refine act_normS (by simp only [Act.put, List.setIfInBounds_toArray, List.set_cons_zero, List.set_cons_succ]; rfl) ?_
    refine wpAnyH_ready (rs := [22]) (by kernel_rfl) (by simp) (AllReadyH.cons (List.getElem?_toArray.trans rfl) (fun K' hK => ?_) AllReadyH.nil)
    refine wanted_goS rfl ?_
    go_simp
    refine (HRA.out w7 hE_w7.inp).mono ?_
    rintro e w8 ⟨A_w8, c_w8, rfl, ha_w8, hc_w8, ho_w8, hb_w8⟩
    rw [← HF.out] at ha_w8 ho_w8
    rw [← HF.out]
    have hs_w8 : Sl w8 w8.heap.size A_w8 F := ho_w8
    have hE_w8 := hE_w7.since hb_w8
    refine hK.out _ _ (Since.of hb_w8) (fun _ => ?_)
    clear hK K'
    refine wpAnyH_more (S' := fun w' => Since w8 w') (fun w' h => Since.trans hb_w8 h) _ _ _ _ ?_
    refine wpAnyH_take (i := 23) (v := .string (strB F)) (List.getElem?_toArray.trans rfl) (by kernel_rfl) (by kernel_rfl) (by kernel_rfl) (fun _ _ _ h => h) (yieldsIf_strS rfl 22 9 5 (.tmp 49) rfl Tryd.underlying22 Tryd.underlying5 Tryd.underlying9 w8.heap.size A_w8 F.length c_w8 F rfl rfl (fun w' hS => Since.sl hS hs_w8 (Nat.le_refl _))) (Since.self _) ?_
    refine act_normS (by simp only [Act.put, List.setIfInBounds_toArray, List.set_cons_zero, List.set_cons_succ]; rfl) ?_
    refine wpAnyH_ready (rs := [24]) (by kernel_rfl) (by simp) (AllReadyH.cons (List.getElem?_toArray.trans rfl) (fun K' hK => ?_) AllReadyH.nil)
    refine wanted_goS rfl ?_
    go_simp
    refine hK.out _ _ (Since.self _) (fun _ => ?_)
    clear hK K'
    refine wpAnyH_ready (rs := [25]) (by kernel_rfl) (by simp) (AllReadyH.cons (List.getElem?_toArray.trans rfl) (fun K' hK => ?_) AllReadyH.nil)
    refine wanted_goS rfl ?_
    go_simp
    refine hK.out _ _ (Since.self _) (fun _ => ?_)
    clear hK K'
    refine wpAnyH_ready (rs := [26]) (by kernel_rfl) (by simp) (AllReadyH.cons (List.getElem?_toArray.trans rfl) (fun K' hK => ?_) AllReadyH.nil)
    refine wanted_goS rfl ?_
    go_simp
    refine hK.out _ _ (Since.self _) (fun _ => ?_)
    clear hK K'
    refine wpAnyH_done (by kernel_rfl) ?_ _
    have HBF := Lib.hid hE_w8.bel
    clear hE_w8 hE_w7 hE_w6 hE_w5 hE_w1 hs_w5 hs_w6 hs_w7 hs_w8 hb_w5 hb_w6 hb_w7 hb_w8 ha_w5 ha_w6 ha_w7 ha_w8 ho_w5 ho_w6 ho_w7 ho_w8
    go_wp2
    go_ret
    exact ⟨rfl, HBF.out⟩

theorem exps_any (sec info lab : List UInt8) (A : Option Addr) (m c : Nat) (n : Int) (w : World) (hK : KT w kW) (hKb : 0 < w.heap.size) (hsec : sec.length = 32)
    (hl : info.length = m) (hlc : m ≤ c) (hcm : c ≤ maxLen) (hs : Sl w w.heap.size A info) :
    Calls Tryd.prog 4 #[.agg (bRow sec), .slice A m c, .string (strB lab), .int .i64 n] w fun e w' => e = .returned (.bool true) ∧ Below w.heap.size w w' := by
  have hz : (strB lab).size = lab.length := rfl
  by_cases h : 1000 < m ∨ 1000 < (strB lab).size ∨ (600 < n ∧ n ≤ 8160)
  · exact exps_out sec A m c _ n w hK hKb hsec h
  · exact exps_in sec info lab A m c n w hK hKb hsec hl hlc hcm hs (by omega) (by omega) (by omega)
end Go.Proofs.YtjbhnfgjkibmfaaDoor
