/-
  The walk through the statement KdfMacs.
-/
import Derived.Test.YtjbhnfgjkibmfaaDoorKKnown
namespace Go.Proofs.YtjbhnfgjkibmfaaDoor
open Go.RowKit
set_option linter.unusedVariables false

/-- Texts that are more than are gone through. -/
def great2B (len : Nat) (ps : List (List UInt8)) : Bool := decide (2000 < len + ps.flatten.length)

set_option maxRecDepth 100000 in
set_option maxHeartbeats 800000 in
theorem great2_any (ps : List (List UInt8)) (vs : List Value) (A : Option Addr) (len c B : Nat) (w : World) (hA : Sv w B A vs) (hvl : vs.length = len) (hP : PartsIn w B vs ps) (hlen : len ≤ 140737488351232) (hpl : ∀ l ∈ ps, l.length ≤ 140737488351232) :
    Calls Tryd.prog 7 #[.slice A len c, .int .i64 2000] w fun e w' => e = .returned (.bool (great2B len ps)) ∧ w = w' := by
  have HA := Lib.hid hA
  have HV := Deep.mk hvl
  have HP := Deep.mk hP
  have HPL := Deep.mk hpl
  have HLN := Deep.mk hlen
  clear hA hvl hP hpl
  go_enter Tryd.func7, Tryd.ntmps7
  go_wp2
  go_loop [5, 6] (fun v i => ∃ (k s : Nat), k ≤ len ∧ i = .int .i64 (k : Int) ∧ v = .int .i64 (s : Int) ∧ Deep (s = len + (ps.take k).flatten.length) ∧ s ≤ 140737488354304) (fun _ i => len - (intOf i).toNat)
  case atStart => exact ⟨0, len, by omega, rfl, rfl, ⟨by simp⟩, by omega⟩
  case round =>
    obtain ⟨k, s, hk, rfl, rfl, HS, hs⟩ := hrel
    by_cases hlt : k < len
    · obtain ⟨l, A', c', hpk, hvk, hlc, hcm, hsl⟩ := HP.out.at_ k (by rw [HV.out]; exact hlt)
      by_cases h3 : s ≤ 2000
      · obtain ⟨b, off, rfl, hb, hcell⟩ := HA.out (by intro e; rw [e] at hvk; simp at hvk)
        have hck := hcell k _ hvk
        have hll : l.length ≤ 140737488351232 := HPL.out l (List.mem_of_getElem? hpk)
        have HPK := Deep.mk hpk
        have t1 : decide ((s : Int) ≤ 2000) = true := decide_eq_true (by omega)
        have t2 : decide (k < len) = true := decide_eq_true hlt
        clear hcell hpk hvk hsl hcm
        go_wp2
        go_round
        case rel => exact ⟨k + 1, s + l.length, by omega, by go_num, by go_num, ⟨by rw [flat_succ ps k l HPK.out, List.length_append, HS.out]; omega⟩, by omega⟩
        case measure => simp [intOf]; omega
      · have t1 : decide ((s : Int) ≤ 2000) = false := decide_eq_false (by omega)
        have t2 : decide (k < len) = true := decide_eq_true hlt
        have t3 : decide ((2000 : Int) < (s : Int)) = true := decide_eq_true (by omega)
        have hf : 2000 < len + ps.flatten.length := by
          have h1 := HS.out
          have h2 := flat_le ps k l hpk
          omega
        have HF : Deep (great2B len ps = true) := ⟨decide_eq_true hf⟩
        clear hpk hvk hlc hcm hsl hf h3
        go_wp2
        go_ret
        exact ⟨by rw [HF.out]; rfl, rfl⟩
    · have t2 : decide (k < len) = false := decide_eq_false hlt
      have HF : Deep (great2B len ps = decide ((2000 : Int) < (s : Int))) := ⟨by
        unfold great2B
        have h1 := HS.out
        rw [List.take_of_length_le (by rw [← HP.out.1, HV.out]; omega)] at h1
        rw [← h1, Bool.eq_iff_iff, decide_eq_true_iff, decide_eq_true_iff]
        omega⟩
      clear hlt hk
      go_wp2
      go_ret
      exact ⟨by rw [HF.out]; rfl, rfl⟩


/-- What stands while a region that draws is under way. -/
structure OC (w0 wr : World) (B g : Nat) (s : List UInt8) : Prop where
  bel : Below B w0 wr
  b1 : Wh wr g 27 (bRow s)
theorem OC.keep {w0 wr wr' : World} {B g M : Nat} {s : List UInt8} (h : OC w0 wr B g s) (hb : Below M wr wr') (hB : B ≤ M) (h1 : g < M) : OC w0 wr' B g s :=
  ⟨h.bel.trans (hb.mono hB), h.b1.below hb h1⟩

set_option maxRecDepth 100000 in
set_option maxHeartbeats 800000 in
theorem macs_out (key : List UInt8) (A : Option Addr) (n c : Nat) (ps : List (List UInt8)) (vs : List Value) (A2 : Option Addr) (len c2 : Nat) (w : World) (hK : KT w kW) (hKb : 0 < w.heap.size)
    (hn : n ≤ 140737488351232) (hA : Sv w w.heap.size A2 vs) (hvl : vs.length = len) (hP : PartsIn w w.heap.size vs ps) (hlen : len ≤ 140737488351232) (hpl : ∀ l ∈ ps, l.length ≤ 140737488351232)
    (ho : 2000 < n ∨ 2000 < len + ps.flatten.length) :
    Calls Tryd.prog 3 #[.slice A n c, .slice A2 len c2] w fun e w' => e = .returned (.bool true) ∧ Below w.heap.size w w' := by
  have HKN := Lib.hid (known_any w hK hKb)
  have HA := Lib.hid hA
  have HV := Lib.hid hvl
  have HP := Lib.hid hP
  have HPL := Lib.hid hpl
  have HG : Hid (2000 < n ∨ great2B len ps = true) := Lib.hid (ho.imp id (fun h => decide_eq_true h))
  clear hA hvl hP hpl ho hK
  rcases Nat.lt_or_ge 2000 n with h1 | h1
  · have t1 : decide ((2000 : Int) < (n : Int)) = true := decide_eq_true (by omega)
    go_enter Tryd.func3, Tryd.ntmps3
    go_wp2_with (go_at_call 6; refine HKN.out.mono ?_; rintro e w1 ⟨rfl, hb1⟩; have HB1 := Lib.hid hb1; clear hb1)
    go_ret
    exact ⟨rfl, HB1.out⟩
  · have t1 : decide ((2000 : Int) < (n : Int)) = false := decide_eq_false (by omega)
    have hg : great2B len ps = true := by
      rcases HG.out with h | h
      · omega
      · exact h
    have HGT := Deep.mk hg
    clear hg
    go_enter Tryd.func3, Tryd.ntmps3
    go_wp2_with (first
      | (go_at_call 6; refine HKN.out.mono ?_; rintro e w1 ⟨rfl, hb1⟩; have HB1 := Lib.hid hb1; clear hb1)
      | (go_at_call 7; refine (great2_any ps vs A2 len c2 w1.heap.size w1 ((Sv.below HA.out HB1.out).keep HB1.out.size (fun _ _ => rfl)) HV.out (PartsAt.keep HP.out HB1.out HB1.out.size) hlen HPL.out).mono ?_; rw [HGT.out]; rintro e w2 ⟨rfl, rfl⟩))
    go_ret
    exact ⟨rfl, HB1.out⟩

set_option maxRecDepth 100000 in
set_option maxHeartbeats 1600000 in
theorem macs_in (key : List UInt8) (A : Option Addr) (n c : Nat) (ps : List (List UInt8)) (vs : List Value) (A2 : Option Addr) (len c2 : Nat) (w : World) (hK : KT w kW) (hKb : 0 < w.heap.size)
    (hl : key.length = n) (hlc : n ≤ c) (hcm : c ≤ maxLen) (hs : Sl w w.heap.size A key)
    (hA : Sv w w.heap.size A2 vs) (hvl : vs.length = len) (hP : PartsIn w w.heap.size vs ps)
    (h1 : n ≤ 2000) (h2 : len + ps.flatten.length ≤ 2000) :
    Calls Tryd.prog 3 #[.slice A n c, .slice A2 len c2] w fun e w' => e = .returned (.bool true) ∧ Below w.heap.size w w' := by
  have HKN := Lib.hid (known_any w hK hKb)
  have HL := Deep.mk hl
  have HLC := Lib.hid hlc
  have HCM := Lib.hid hcm
  have HS := Lib.hid hs
  have HA := Lib.hid hA
  have HV := Lib.hid hvl
  have HP := Lib.hid hP
  have HK := Lib.hid hK
  obtain ⟨T, hT⟩ : ∃ T, T = ps.flatten := ⟨_, rfl⟩
  have HTT := Deep.mk hT
  have hpl : ∀ l ∈ ps, l.length ≤ 140737488351232 := fun l hl' => by
    obtain ⟨i, hi, rfl⟩ := List.getElem_of_mem hl'
    have := flat_le ps i _ (List.getElem?_eq_getElem hi)
    omega
  have HPL := Lib.hid hpl
  have hTl : T.length ≤ 2000 := by rw [hT]; omega
  have hle2 : len ≤ 2000 := by omega
  have HGT : Deep (great2B len ps = false) := ⟨decide_eq_false (by omega)⟩
  have HPM : Deep (ps.flatten.length ≤ 16000000) := ⟨by omega⟩
  have HPM2 : Deep (ps.flatten.length ≤ 15000000) := ⟨by omega⟩
  have t1 : decide ((2000 : Int) < (n : Int)) = false := decide_eq_false (by omega)
  clear hl hs hA hvl hP hK hpl h2 hT
  go_enter Tryd.func3, Tryd.ntmps3
  go_upto_region 5 with (first
      | (go_at_call 6; refine HKN.out.mono ?_; rintro e w1 ⟨rfl, hb1⟩; have HB1 := Lib.hid hb1; clear hb1)
      | (go_at_call 7; refine (great2_any ps vs A2 len c2 w1.heap.size w1 ((Sv.below HA.out HB1.out).keep HB1.out.size (fun _ _ => rfl)) HV.out (PartsAt.keep HP.out HB1.out HB1.out.size) (by omega) HPL.out).mono ?_; rw [HGT.out]; rintro e w2 ⟨rfl, rfl⟩))
  clear HKN HGT HPL t1
  have hw1 : w.heap.size ≤ w1.heap.size := HB1.out.size
  go_upto_region 6 with (go_at_call 8; refine (join_any ps vs A2 len c2 w1.heap.size w1 (Nat.le_refl _) ((Sv.below HA.out HB1.out).keep hw1 (fun _ _ => rfl)) HV.out (PartsAt.keep HP.out HB1.out hw1) (by omega) HPM.out).mono ?_; rintro e w2 ⟨A5, c5, rfl, h5a, h5b, hown5, hb2⟩; rw [← HTT.out] at h5a hown5; rw [← HTT.out]; have HO5 := Lib.hid hown5; have HB2 := Lib.hid hb2; clear hown5 hb2)
  have ho5 := HO5.out
  obtain ⟨m, hm⟩ : ∃ m, m = T.length := ⟨_, rfl⟩
  rw [← hm] at ho5 h5a
  rw [← hm]
  have hm2 : m ≤ 2000 := by omega
  have hb2 : Below w.heap.size w w2 := HB1.out.trans (HB2.out.mono hw1)
  have hw2 : w.heap.size ≤ w2.heap.size := hb2.size
  have hT2 : Sl w2 w2.heap.size A5 T := Sv.of_own ho5
  have hk2 : Sl w2 w2.heap.size A key := (Sv.below HS.out hb2).keep hw2 (fun _ _ => rfl)
  have HM := Deep.mk hm.symm
  have HT2 := Lib.hid hT2
  have HK2 := Lib.hid hk2
  have HBW2 := Lib.hid hb2
  clear ho5 hm hb2 hT2 hk2 HO5 HB1 HB2 hTl
  go_upto_region 7 with (first
    | (go_at_call 9; refine (rmac_any key T A n c A5 m c5 w2 HL.out hlc hcm HK2.out (by omega) HM.out h5a h5b HT2.out (by omega)).mono ?_; rintro e w3 ⟨rfl, hb3⟩; obtain ⟨out, hout⟩ : ∃ out, out = macK kW key T := ⟨_, rfl⟩; rw [← hout]; have HOL : Deep (out.length = 32) := ⟨by rw [hout]; exact macK_len _ _ _⟩; have HOUT := Deep.mk hout; have HB3 := Lib.hid hb3; clear hout hb3)
    | (refine wpList_store_row rfl 27 (.tmp 6) (.tmp 20) rfl w3.heap.size (bRow out) rfl rfl _ _ (Wh.new w3 _ _) (info_bRow HOL.out) (by rw [bRow_size, HOL.out]; rfl) (bRow_one _) ?_; rw [World.setRow_alloc_new]))
  have hb4 : Below w2.heap.size w2 (w3.alloc (.cells (bRow out) 27)) := HB3.out.alloc HB3.out.size _
  have hw4 : Wh (w3.alloc (.cells (bRow out) 27)) w3.heap.size 27 (bRow out) := Wh.new _ _ _
  obtain ⟨g, hg⟩ : ∃ g, g = w3.heap.size := ⟨_, rfl⟩
  rw [← hg] at hw4
  rw [← hg]
  generalize w3.alloc (.cells (bRow out) 27) = w4 at *
  have hg4 : g < w4.heap.size := hw4.lt
  have hbw4 : Below w.heap.size w w4 := HBW2.out.trans (hb4.mono hw2)
  have hww4 : w.heap.size ≤ w4.heap.size := hbw4.size
  have hk4 : Sl w4 w4.heap.size A key := (Sv.below HS.out hbw4).keep hww4 (fun _ _ => rfl)
  have hT4 : Sl w4 w4.heap.size A5 T := (Sv.below HT2.out hb4).keep hb4.size (fun _ _ => rfl)
  have hA4 : Sv w4 w4.heap.size A2 vs := (Sv.below HA.out hbw4).keep hww4 (fun _ _ => rfl)
  have hP4 : PartsAt w4 w4.heap.size vs ps := PartsAt.keep HP.out hbw4 hww4
  have hK4 : KT w4 kW := HK.out.below hKb hbw4
  have hKb4 : 0 < w4.heap.size := Nat.lt_of_lt_of_le hKb hww4
  have hS0 : OC w w4.drew w.heap.size g out := ⟨hbw4.drew, hw4⟩
  have HK4 := Lib.hid hk4
  have HT4 := Lib.hid hT4
  have HA4 := Lib.hid hA4
  have HP4 := Lib.hid hP4
  have HKT4 := Lib.hid hK4
  have HE : Deep (∀ w', (Op.equalIn 10000 27 (.agg (bRow out)) (.agg (bRow out))).run Tryd.prog w' = .ok true w') := ⟨fun w' => by rw [eq_sums out out HOL.out HOL.out]; simp⟩
  clear hb4 hw4 hg hbw4 hk4 hT4 hA4 hP4 hK4 HBW2 HT2 HK2 HB3 HK HP HA HS
  have hE := HE.out
  simp only [Act.put]
  refine wp_region_held_drew (S := fun w' => OC w w' w.heap.size g out) (by kernel_rfl) hS0 (fun _ => ?_)
  refine wpAnyH_take (i := 0) (v := .slice A n c) (List.getElem?_toArray.trans rfl) (by kernel_rfl) (by kernel_rfl) (by kernel_rfl) (fun _ _ _ h => h) (.inl ⟨rfl, fun w' hS => rfl⟩) hS0 ?_
  refine act_normS (by simp only [Act.put, List.setIfInBounds_toArray, List.set_cons_zero, List.set_cons_succ]; rfl) ?_
  refine wpAnyH_take (i := 1) (v := .slice A2 len c2) (List.getElem?_toArray.trans rfl) (by kernel_rfl) (by kernel_rfl) (by kernel_rfl) (fun _ _ _ h => h) (.inl ⟨rfl, fun w' hS => rfl⟩) hS0 ?_
  refine act_normS (by simp only [Act.put, List.setIfInBounds_toArray, List.set_cons_zero, List.set_cons_succ]; rfl) ?_
  refine wpAnyH_take (i := 3) (v := .agg (bRow out)) (List.getElem?_toArray.trans rfl) (by kernel_rfl) (by kernel_rfl) (by kernel_rfl) (fun _ _ _ h => h) (yieldsIf_load_mid (by rfl) 27 (.tmp 6) rfl g 0 rfl (bRow out).toList _ (fun w' hS => row_rangeS hS.b1) Tryd.underlying27 rfl (by rw [Array.length_toList]; exact info_bRow HOL.out)) hS0 ?_
  refine act_normS (by simp only [Act.put, List.setIfInBounds_toArray, List.set_cons_zero, List.set_cons_succ]; rfl) ?_
  refine wpAnyH_ready (rs := [2]) (by kernel_rfl) (by simp) (AllReadyH.cons (List.getElem?_toArray.trans rfl) (fun K' hK => ?_) AllReadyH.nil)
  refine wanted_goS rfl ?_
  go_simp
  refine (mac_any kW key A n c ps vs A2 len c2 w4.drew kW_len HKT4.out hKb4 HL.out hlc hcm HK4.out (by omega) HA4.out HV.out (by omega) HP4.out HPM2.out).mono ?_
  rintro e w5 ⟨rfl, hb5⟩
  rw [← HTT.out, ← HOUT.out]
  have hb5' : Below w4.heap.size w4 w5 := (Below.refl _ _).drew.trans hb5
  have hS1 : OC w w5 w.heap.size g out := hS0.keep hb5 hww4 hg4
  clear hb5 hS0
  refine hK.out _ _ hS1 (fun _ => ?_)
  clear hK K'
  refine wpAnyH_ready (rs := [4]) (by kernel_rfl) (by simp) (AllReadyH.cons (List.getElem?_toArray.trans rfl) (fun K' hK => ?_) AllReadyH.nil)
  refine wanted_goS rfl ?_
  go_simp
  refine hK.out _ _ hS1 (fun _ => ?_)
  clear hK K'
  refine wpAnyH_ready (rs := [5]) (by kernel_rfl) (by simp) (AllReadyH.cons (List.getElem?_toArray.trans rfl) (fun K' hK => ?_) AllReadyH.nil)
  refine wanted_goS rfl ?_
  go_simp
  refine hK.out _ _ hS1 (fun _ => ?_)
  clear hK K'
  refine wpAnyH_take (i := 6) (v := .slice A n c) (List.getElem?_toArray.trans rfl) (by kernel_rfl) (by kernel_rfl) (by kernel_rfl) (fun _ _ _ h => h) (.inl ⟨rfl, fun w' hS => rfl⟩) hS1 ?_
  refine act_normS (by simp only [Act.put, List.setIfInBounds_toArray, List.set_cons_zero, List.set_cons_succ]; rfl) ?_
  refine wpAnyH_take (i := 7) (v := .slice A5 m c5) (List.getElem?_toArray.trans rfl) (by kernel_rfl) (by kernel_rfl) (by kernel_rfl) (fun _ _ _ h => h) (.inl ⟨rfl, fun w' hS => rfl⟩) hS1 ?_
  refine act_normS (by simp only [Act.put, List.setIfInBounds_toArray, List.set_cons_zero, List.set_cons_succ]; rfl) ?_
  refine wpAnyH_take (i := 9) (v := .agg (bRow out)) (List.getElem?_toArray.trans rfl) (by kernel_rfl) (by kernel_rfl) (by kernel_rfl) (fun _ _ _ h => h) (yieldsIf_load_mid (by rfl) 27 (.tmp 6) rfl g 0 rfl (bRow out).toList _ (fun w' hS => row_rangeS hS.b1) Tryd.underlying27 rfl (by rw [Array.length_toList]; exact info_bRow HOL.out)) hS1 ?_
  refine act_normS (by simp only [Act.put, List.setIfInBounds_toArray, List.set_cons_zero, List.set_cons_succ]; rfl) ?_
  refine wpAnyH_ready (rs := [8]) (by kernel_rfl) (by simp) (AllReadyH.cons (List.getElem?_toArray.trans rfl) (fun K' hK => ?_) AllReadyH.nil)
  refine wanted_goS rfl ?_
  go_simp
  refine (extract_any kW key T A n c A5 m c5 w5 kW_len (HKT4.out.below hKb4 hb5') (Nat.lt_of_lt_of_le hKb4 hb5'.size) HL.out hlc hcm ((Sv.below HK4.out hb5').keep hb5'.size (fun _ _ => rfl)) (by omega) HM.out h5a h5b ((Sv.below HT4.out hb5').keep hb5'.size (fun _ _ => rfl)) (by omega)).mono ?_
  rintro e w6 ⟨rfl, hb6⟩
  rw [← HOUT.out]
  have hS2 : OC w w6 w.heap.size g out := hS1.keep (hb6.mono hb5'.size) hww4 hg4
  clear hb6 hS1 hb5'
  refine hK.out _ _ hS2 (fun _ => ?_)
  clear hK K'
  refine wpAnyH_ready (rs := [10]) (by kernel_rfl) (by simp) (AllReadyH.cons (List.getElem?_toArray.trans rfl) (fun K' hK => ?_) AllReadyH.nil)
  refine wanted_goS rfl ?_
  go_simp
  refine hK.out _ _ hS2 (fun _ => ?_)
  clear hK K'
  refine wpAnyH_ready (rs := [11]) (by kernel_rfl) (by simp) (AllReadyH.cons (List.getElem?_toArray.trans rfl) (fun K' hK => ?_) AllReadyH.nil)
  refine wanted_goS rfl ?_
  go_simp
  refine hK.out _ _ hS2 (fun _ => ?_)
  clear hK K'
  refine wpAnyH_ready (rs := [12]) (by kernel_rfl) (by simp) (AllReadyH.cons (List.getElem?_toArray.trans rfl) (fun K' hK => ?_) AllReadyH.nil)
  refine wanted_goS rfl ?_
  go_simp
  refine hK.out _ _ hS2 (fun _ => ?_)
  clear hK K'
  refine wpAnyH_done (by kernel_rfl) ?_ _
  have HBF := Lib.hid hS2.bel
  clear hS2 hE HE
  go_wp2
  go_ret
  exact ⟨rfl, HBF.out⟩

theorem macs_any (key : List UInt8) (A : Option Addr) (n c : Nat) (ps : List (List UInt8)) (vs : List Value) (A2 : Option Addr) (len c2 : Nat) (w : World) (hK : KT w kW) (hKb : 0 < w.heap.size)
    (hl : key.length = n) (hlc : n ≤ c) (hcm : c ≤ maxLen) (hs : Sl w w.heap.size A key) (hn : n ≤ 140737488351232)
    (hA : Sv w w.heap.size A2 vs) (hvl : vs.length = len) (hP : PartsIn w w.heap.size vs ps) (hlen : len ≤ 140737488351232) (hpl : ∀ l ∈ ps, l.length ≤ 140737488351232) :
    Calls Tryd.prog 3 #[.slice A n c, .slice A2 len c2] w fun e w' => e = .returned (.bool true) ∧ Below w.heap.size w w' := by
  by_cases h : 2000 < n ∨ 2000 < len + ps.flatten.length
  · exact macs_out key A n c ps vs A2 len c2 w hK hKb hn hA hvl hP hlen hpl h
  · exact macs_in key A n c ps vs A2 len c2 w hK hKb hl hlc hcm hs hA hvl hP (by omega) (by omega)
end Go.Proofs.YtjbhnfgjkibmfaaDoor
