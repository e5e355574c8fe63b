/-
  The walk through the statement ParamOthers.
-/
import Derived.Test.YtpnpbjdkldmmdaaDoorQLawOth0
import Derived.Test.YtpnpbjdkldmmdaaDoorQMath3
namespace Go.Proofs.YtpnpbjdkldmmdaaDoor
open Go.RowKit
set_option linter.unusedVariables false

theorem may_lens {p : PQ} (hm : mayQ p = true) : p.orig.length ≤ 20 ∧ p.cid.length ≤ 20 := by
  unfold mayQ at hm
  rw [Bool.and_eq_true] at hm
  have h0 := (okTo_mono hm.2 0 (by omega)).2
  have h1 := (okTo_mono hm.2 15 (by omega)).2
  simp [okId] at h0 h1
  exact ⟨h0, h1⟩

theorem OB.lo {w0 w1 w : World} {v : Value} {l : List UInt8} (h : OB w1 w v l) (hb : Below w0.heap.size w0 w1) : OB w0 w v l := ⟨own_lo h.own hb.size, hb.trans (h.bel.mono hb.size)⟩

theorem part_short {id : Nat} {v : List UInt8} (h : id ≤ 63) (hv : v.length ≤ 63) : partQ id v = [UInt8.ofNat id, UInt8.ofNat v.length] ++ v := by
  have e : ∀ n : Nat, n ≤ 63 → enc n = [UInt8.ofNat n] := by decide
  unfold partQ
  rw [e id h, e v.length hv]
  rfl

set_option maxRecDepth 100000 in
set_option maxHeartbeats 1600000 in
theorem qothers_free (R : Array Value) (A0 : Option Addr) (c0 : Nat) (A1 : Option Addr) (c1 : Nat) (p : PQ) (hR : R = prC A0 c0 A1 c1 p) (id n c : Nat) (A : Option Addr) (ah : Bool) (w : World) (hT : Tab w) (ht : p.tok.length = 16)
    (h0 : Sl w w.heap.size A0 p.orig) (h1 : Sl w w.heap.size A1 p.cid) (hm : mayQ p = true) (hf : 60 < n ∨ (n ≤ 60 ∧ id < 16) ∨ (n ≤ 60 ∧ 60 < id)) :
    Calls Tryd.prog 6 #[.agg R, .int .u64 (id : Int), .slice A n c, .bool ah] w fun e w' => e = .returned (.bool true) ∧ Below w.heap.size w w' := by
  have hbx := BoxQ.new w R p A0 c0 A1 c1 hR ht h0 h1
  have HK := Lib.hid (qknown_any (w.alloc (.cells R 43)) (hT.below hbx.bel hT.lt))
  have HBX := Lib.hid hbx
  have HI := Lib.hid hbx.is.info
  have HM := Lib.hid hm
  have HT := Lib.hid hT
  obtain ⟨q0, q1⟩ := may_lens hm
  clear hbx hR ht h0 h1 hT hm
  rcases hf with h | ⟨h, h'⟩ | ⟨h, h'⟩
  all_goals
    go_enter Tryd.func6, Tryd.ntmps6
    go_wp2_with fail
    refine HK.out.mono ?_
    rintro e w1 ⟨rfl, hb1⟩
    have HB1 := Lib.hid (HBX.out.below hb1)
    clear hb1 HK HBX
    go_wp2_with (first
      | (refine wpList_load_q 43 (.tmp 4) rfl (by rfl) w.heap.size rfl _ R _ HB1.out.wh Tryd.underlying43 rfl HI.out ?_)
      | (go_at_call 15; refine (qapp_is HB1.out.is HM.out (HT.out.below HB1.out.bel HT.out.lt) none 0 0 [] rfl (Sv.nil _ _ _) (Nat.zero_le _)).mono ?_; rintro e w2 ⟨A2, c2, rfl, hc2, hm2, hown2, hb2⟩; have HB2 := Lib.hid (HB1.out.below hb2); have e0 := HB2.out.e0; have e1 := HB2.out.e1; clear hb2 hown2))
    all_goals
      go_ret
      exact ⟨rfl, HB2.out.bel⟩

set_option maxRecDepth 100000 in
set_option maxHeartbeats 3200000 in
theorem qothers_main (R : Array Value) (A0 : Option Addr) (c0 : Nat) (A1 : Option Addr) (c1 : Nat) (p : PQ) (hR : R = prC A0 c0 A1 c1 p) (id n c : Nat) (A : Option Addr) (v : List UInt8) (ah : Bool) (w : World) (hT : Tab w) (ht : p.tok.length = 16)
    (h0 : Sl w w.heap.size A0 p.orig) (h1 : Sl w w.heap.size A1 p.cid) (hm : mayQ p = true) (hv : v.length = n) (hs : Sl w w.heap.size A v) (hn : n ≤ 60) (h16 : 16 ≤ id) (h60 : id ≤ 60) :
    Calls Tryd.prog 6 #[.agg R, .int .u64 (id : Int), .slice A n c, .bool ah] w fun e w' => e = .returned (.bool true) ∧ Below w.heap.size w w' := by
  obtain ⟨i0, hi0, hz0, hz1, hz2⟩ := info_parts info8
  have hbx := BoxQ.new w R p A0 c0 A1 c1 hR ht h0 h1
  have HK := Lib.hid (qknown_any (w.alloc (.cells R 43)) (hT.below hbx.bel hT.lt))
  have HBX := Lib.hid hbx
  have HI := Lib.hid hbx.is.info
  have HM := Lib.hid hm
  have HT := Lib.hid hT
  have HS := Lib.hid hs
  have HV := Lib.hid hv
  obtain ⟨q0, q1⟩ := may_lens hm
  have hbl : (bytesQ p).length ≤ 640 := told_max hm ht 16
  have HTK := Lib.hid ht
  have HAPP := Lib.hid (fun (wr : World) (h : BoxQ w wr w.heap.size R p A0 c0 A1 c1) => qapp_is h.is hm (hT.below h.bel hT.lt) none 0 0 [] rfl (Sv.nil _ _ _) (Nat.zero_le _))
  obtain ⟨B, hB⟩ : ∃ B, bytesQ p = B := ⟨_, rfl⟩
  rw [hB] at hbl HAPP
  rw [List.nil_append] at HAPP
  have HBB := Lib.hid hB
  clear hB
  clear hbx hR ht h0 h1 hT hm hs hv
  go_enter Tryd.func6, Tryd.ntmps6
  go_wp2_with fail
  refine HK.out.mono ?_
  rintro e w1 ⟨rfl, hb1⟩
  have HB1 := Lib.hid (HBX.out.below hb1)
  clear hb1 HK HBX
  have d1 : decide ((2000 : Int) < (p.orig.length : Int) + (p.cid.length : Int)) = false := decide_eq_false (by omega)
  have d2 : decide ((60 : Int) < (n : Int)) = false := decide_eq_false (by omega)
  have d3 : decide ((id : Int) < 16) = false := decide_eq_false (by omega)
  have d4 : decide ((60 : Int) < (id : Int)) = false := decide_eq_false (by omega)
  go_upto_region 6 with (first
    | (refine wpList_load_q 43 (.tmp 4) rfl (by rfl) w.heap.size rfl _ R _ HB1.out.wh Tryd.underlying43 rfl HI.out ?_)
    | (go_at_call 15; refine (HAPP.out _ HB1.out).mono ?_; rintro e w2 ⟨A2, c2, rfl, hc2, hm2, hown2, hb2⟩; have HB2 := Lib.hid (HB1.out.below hb2); have e0 := HB2.out.e0; have e1 := HB2.out.e1; have HS2 := Lib.hid (Sv.of_own hown2); clear hb2 hown2))
  have hO2 := OB.lit (w := w2) #[.int .u8 (id : Int), .int .u8 (n : Int)] [UInt8.ofNat id, UInt8.ofNat n] 2 (by simp [cell8]; omega) rfl (by omega)
  have HO2 := Lib.hid hO2
  have HSV2 := Lib.hid (((HS.out.below HB2.out.bel).keep HB2.out.bel.size (fun _ _ => rfl)).below hO2.bel |>.keep hO2.bel.size (fun _ _ => rfl))
  clear HB1 e0 e1 d1 d2 d3 d4 hO2 HAPP
  go_upto_region 7 with (at_builtin; refine wpList_app_ob rfl (.tmp 53) (.tmp 54) rfl _ _ rfl HO2.out A n c v rfl HSV2.out HV.out (by simp; omega) ?_; intro v3 w3 hO3 hg3)
  have hp := part_short (v := v) (id := id) (by omega) (by rw [HV.out]; omega)
  rw [HV.out] at hp
  obtain ⟨A3, c3, hv3, hc3, hm3, hs3⟩ := hO3.sl
  have hol : ([UInt8.ofNat id, UInt8.ofNat n] ++ v).length = 2 + n := by simp [HV.out]; omega
  rw [hol] at hv3
  subst hv3
  rw [← hp] at hol hO3 hc3 hs3
  have HP := Lib.hid hp
  obtain ⟨O, hO⟩ : ∃ O, partQ id v = O := ⟨_, rfl⟩
  rw [hO] at hol hO3 hc3 hs3
  have hTB := take_behind HM.out HTK.out h16 (by omega) (show v.length ≤ 4611686018427387903 by rw [HV.out]; omega)
  have hTA := take_ahead HM.out HTK.out h16 (by omega) (show v.length ≤ 4611686018427387903 by rw [HV.out]; omega)
  have hTB2 := take_behind2 HM.out HTK.out h16 (by omega) (show v.length ≤ 4611686018427387903 by rw [HV.out]; omega)
  have hTA2 := take_ahead2 HM.out HTK.out h16 (by omega) (show v.length ≤ 4611686018427387903 by rw [HV.out]; omega)
  rw [hO, HBB.out] at hTB hTA hTB2 hTA2
  have HTB := Lib.hid hTB
  have HTA := Lib.hid hTA
  have HTB2 := Lib.hid hTB2
  have HTA2 := Lib.hid hTA2
  have HB3 := Lib.hid (HB2.out.below hO3.bel)
  have HS23 := Lib.hid ((HS2.out.below hO3.bel).keep hO3.bel.size (fun _ _ => rfl))
  have HS3 := Lib.hid hs3
  clear hp hO hTB hTA hTB2 hTA2 HP hg3 HSV2 HO2 HS2 HB2 hO3 hs3 HS HT
  have hO4 := OB.lit (w := w3) #[] [] 0 rfl rfl (by omega)
  have HSa4 := Lib.hid ((HS23.out.below hO4.bel).keep hO4.bel.size (fun _ _ => rfl))
  have HSb4 := Lib.hid (HS3.out)
  have HO4 := Lib.hid hO4
  clear hO4
  have HOL := Lib.hid hol
  go_upto_region 8 with (first
      | (at_builtin; refine wpList_app_ob rfl (.tmp 56) (.tmp 57) rfl _ _ rfl HO4.out A2 B.length c2 B rfl HSa4.out rfl (by simp; omega) ?_; intro v4 w4 hO4 hg4; have HO4' := Lib.hid hO4; have HSb4' := Lib.hid ((HSb4.out.below hO4.bel).keep hO4.bel.size (fun _ _ => rfl)); clear hO4 hg4)
      | (at_builtin; refine wpList_app_ob rfl (.tmp 58) (.tmp 59) rfl _ _ rfl HO4'.out A3 (2 + n) c3 O rfl HSb4'.out HOL.out (by simp; omega) ?_; intro v5 w5 hO5 hg5))
  have HO5 := Lib.hid hO5
  clear hO5 hg5 HSa4 HSb4 HO4 HO4'
  cases ah
  case false =>
    go_upto_region 10 with fail
    have hot : OB w3 w5 v5 (B ++ O) := by simpa using HO5.out
    have HOT := Lib.hid hot
    have HTL := Lib.hid HTB.out
    have HTN := Lib.hid HTB2.out
    have hll : (B ++ O).length ≤ 710 := by rw [List.length_append, hol]; omega
    have HLB := Lib.hid (fun g (hg : Value.ownBlock v5 = some g) => HOT.out.own.lt g hg)
    generalize w5 = wl at *
    generalize B ++ O = L at *
    clear hot HTB HTA HTB2 HTA2 HO5 HSb4'
    obtain ⟨A5, c5, hvl, hc5, hm5, hs5⟩ := HOT.out.sl
    subst hvl
    have HTK5 := Lib.hid (qtake_ok HTL.out A5 L.length c5 wl rfl hs5 hc5 hm5 (by omega))
    clear hs5
    go_upto_region 11 with (first
      | (go_at_call 19; refine HTK5.out.mono ?_; rintro e w7 ⟨R7, rfl, hr7, hb7⟩
         have HR7 := Lib.hid hr7; have HB7 := Lib.hid hb7; clear hr7 hb7)
      | (refine wpList_store_row rfl 43 (.tmp 13) (.tmp 70) rfl w7.heap.size R7 rfl rfl _ _ (Wh.new _ _ _) HR7.out.is.info (by rw [HR7.out.is.size]; rfl) HR7.out.is.one ?_))
    obtain ⟨hw8, hb8⟩ := box_put HR7.out.is zRowQ
    unfold zRowQ at hw8 hb8
    have hr8 := HR7.out.below hb8
    have HO8 := Lib.hid ((HOT.out.below HB7.out).below hb8)
    have HR8 := Lib.hid hr8
    have HW8 := Lib.hid hw8
    have hlt8 : wl.heap.size ≤ w7.heap.size := HB7.out.size
    have HI7 := Lib.hid HR7.out.is.info
    clear HTK5 HR7 HB7 hb8 hw8 hr8
    generalize World.setRow (w7.alloc (.cells #[.slice none 0 0, .slice none 0 0, .int .u64 0, .int .u64 0, .int .u64 0, .int .u64 0, .int .u64 0, .int .u64 0, .int .u64 0, .int .u64 0, .int .u64 0, .bool false, .int .u8 0, .int .u8 0, .int .u8 0, .int .u8 0, .int .u8 0, .int .u8 0, .int .u8 0, .int .u8 0, .int .u8 0, .int .u8 0, .int .u8 0, .int .u8 0, .int .u8 0, .int .u8 0, .int .u8 0, .int .u8 0] 43)) w7.heap.size R7 = w8 at *
    obtain ⟨M, hM⟩ : ∃ M, L ++ O = M := ⟨_, rfl⟩
    have hml : M.length ≤ 800 := by rw [← hM, List.length_append, HOL.out]; omega
    rw [hM] at HTN
    have HMM := Lib.hid hM
    clear hM
    have HSO8 := Lib.hid ((HS3.out.below HO8.out.bel).keep HO8.out.bel.size (fun _ _ => rfl))
    go_upto_region 12 with (first
      | (at_builtin; refine wpList_app_ob rfl (.tmp 73) (.tmp 74) rfl _ _ rfl HO8.out A3 (2 + n) c3 O rfl HSO8.out HOL.out (by omega) ?_; intro v9 w9 hO9 hg9; rw [HMM.out] at hO9
         obtain ⟨A9, c9, hv9, hc9, hm9, hs9⟩ := hO9.sl
         subst hv9
         have HTK9 := Lib.hid (qtake_no HTN.out A9 M.length c9 w9 rfl hs9 hc9 hm9 (by omega))
         have HR9 := Lib.hid (HR8.out.grown hg9 (fun g hg => (HLB.out g hg).2))
         have HW9 := Lib.hid (HW8.out.grown hg9 (fun e => by have := (HLB.out _ e.symm).2; omega))
         have HB9 := Lib.hid (HB3.out.below hO9.bel)
         clear hO9 hg9 hs9 hm9)
      | (go_at_call 19; refine HTK9.out.mono ?_; rintro e w10 ⟨R10, rfl, hr10, hb10⟩
         have HR10 := Lib.hid hr10; have HB10 := Lib.hid hb10; clear hr10 hb10)
      | (refine wpList_store_row rfl 43 (.tmp 14) (.tmp 77) rfl w10.heap.size R10 rfl rfl _ _ (Wh.new _ _ _) HR10.out.info (by rw [HR10.out.size]; rfl) HR10.out.one ?_))
    obtain ⟨hw11, hb11⟩ := box_put HR10.out zRowQ
    unfold zRowQ at hw11 hb11
    have hr11 := (HR9.out.below HB10.out).below hb11
    have hx11 := (HW9.out.below HB10.out HW9.out.lt).below hb11 (Nat.lt_of_lt_of_le HW9.out.lt HB10.out.size)
    have HB11 := Lib.hid ((HB9.out.below HB10.out).below hb11)
    clear HTK9 HR9 HW9 HB9 HB10 hw11 hb11 HR10
    generalize World.setRow (w10.alloc (.cells #[.slice none 0 0, .slice none 0 0, .int .u64 0, .int .u64 0, .int .u64 0, .int .u64 0, .int .u64 0, .int .u64 0, .int .u64 0, .int .u64 0, .int .u64 0, .bool false, .int .u8 0, .int .u8 0, .int .u8 0, .int .u8 0, .int .u8 0, .int .u8 0, .int .u8 0, .int .u8 0, .int .u8 0, .int .u8 0, .int .u8 0, .int .u8 0, .int .u8 0, .int .u8 0, .int .u8 0, .int .u8 0] 43)) w10.heap.size R10 = w11 at *
    have HW11 := Lib.hid hx11
    have HSAME := Lib.hid (sameq_is HB11.out.is hr11.is)
    clear hr11 hx11 HSO8 HO8 HR8 HW8
    go_wp2_with (first
      | (refine wpList_load_q 43 (.tmp 4) rfl (by rfl) w.heap.size rfl _ R _ HB11.out.wh Tryd.underlying43 rfl HI.out ?_)
      | (refine wpList_load_q 43 (.tmp 13) rfl (by rfl) w7.heap.size rfl _ R7 _ HW11.out Tryd.underlying43 rfl HI7.out ?_)
      | (go_at_call 20; refine HSAME.out.mono ?_; rintro e w12 ⟨rfl, hb12⟩))
    go_ret
    exact ⟨rfl, (HB11.out.below hb12).bel⟩
  case true =>
    have hO6 := OB.lit (w := w5) #[] [] 0 rfl rfl (by omega)
    have HSa6 := Lib.hid (((HS3.out.below HO5.out.bel).keep HO5.out.bel.size (fun _ _ => rfl)).below hO6.bel |>.keep hO6.bel.size (fun _ _ => rfl))
    have HSb6 := Lib.hid ((HS23.out.below HO5.out.bel).keep HO5.out.bel.size (fun _ _ => rfl))
    have HO6 := Lib.hid hO6
    clear hO6
    go_upto_region 10 with (first
        | (at_builtin; refine wpList_app_ob rfl (.tmp 62) (.tmp 63) rfl _ _ rfl HO6.out A3 (2 + n) c3 O rfl HSa6.out HOL.out (by simp; omega) ?_; intro v6 w6 hO6 hg6; have HO6' := Lib.hid hO6; have HSb6' := Lib.hid ((HSb6.out.below hO6.bel).keep hO6.bel.size (fun _ _ => rfl)); clear hO6 hg6)
        | (at_builtin; refine wpList_app_ob rfl (.tmp 64) (.tmp 65) rfl _ _ rfl HO6'.out A2 B.length c2 B rfl HSb6'.out rfl (by simp; omega) ?_; intro v7 w7 hO7 hg7))
    have hot : OB w3 w7 v7 (O ++ B) := (show OB w5 w7 v7 (O ++ B) by simpa using hO7).lo HO5.out.bel
    have HOT := Lib.hid hot
    have HTL := Lib.hid HTA.out
    have HTN := Lib.hid HTA2.out
    have hll : (O ++ B).length ≤ 710 := by rw [List.length_append, hol]; omega
    have HLB := Lib.hid (fun g (hg : Value.ownBlock v7 = some g) => HOT.out.own.lt g hg)
    generalize w7 = wl at *
    generalize O ++ B = L at *
    clear hot HTB HTA HTB2 HTA2 HO5 HSb4' HO6' HSb6' HSa6 HSb6 HO6 hO7 hg7
    obtain ⟨A5, c5, hvl, hc5, hm5, hs5⟩ := HOT.out.sl
    subst hvl
    have HTK5 := Lib.hid (qtake_ok HTL.out A5 L.length c5 wl rfl hs5 hc5 hm5 (by omega))
    clear hs5
    go_upto_region 11 with (first
      | (go_at_call 19; refine HTK5.out.mono ?_; rintro e w7 ⟨R7, rfl, hr7, hb7⟩
         have HR7 := Lib.hid hr7; have HB7 := Lib.hid hb7; clear hr7 hb7)
      | (refine wpList_store_row rfl 43 (.tmp 13) (.tmp 70) rfl w7.heap.size R7 rfl rfl _ _ (Wh.new _ _ _) HR7.out.is.info (by rw [HR7.out.is.size]; rfl) HR7.out.is.one ?_))
    obtain ⟨hw8, hb8⟩ := box_put HR7.out.is zRowQ
    unfold zRowQ at hw8 hb8
    have hr8 := HR7.out.below hb8
    have HO8 := Lib.hid ((HOT.out.below HB7.out).below hb8)
    have HR8 := Lib.hid hr8
    have HW8 := Lib.hid hw8
    have hlt8 : wl.heap.size ≤ w7.heap.size := HB7.out.size
    have HI7 := Lib.hid HR7.out.is.info
    clear HTK5 HR7 HB7 hb8 hw8 hr8
    generalize World.setRow (w7.alloc (.cells #[.slice none 0 0, .slice none 0 0, .int .u64 0, .int .u64 0, .int .u64 0, .int .u64 0, .int .u64 0, .int .u64 0, .int .u64 0, .int .u64 0, .int .u64 0, .bool false, .int .u8 0, .int .u8 0, .int .u8 0, .int .u8 0, .int .u8 0, .int .u8 0, .int .u8 0, .int .u8 0, .int .u8 0, .int .u8 0, .int .u8 0, .int .u8 0, .int .u8 0, .int .u8 0, .int .u8 0, .int .u8 0] 43)) w7.heap.size R7 = w8 at *
    obtain ⟨M, hM⟩ : ∃ M, L ++ O = M := ⟨_, rfl⟩
    have hml : M.length ≤ 800 := by rw [← hM, List.length_append, HOL.out]; omega
    rw [hM] at HTN
    have HMM := Lib.hid hM
    clear hM
    have HSO8 := Lib.hid ((HS3.out.below HO8.out.bel).keep HO8.out.bel.size (fun _ _ => rfl))
    go_upto_region 12 with (first
      | (at_builtin; refine wpList_app_ob rfl (.tmp 73) (.tmp 74) rfl _ _ rfl HO8.out A3 (2 + n) c3 O rfl HSO8.out HOL.out (by omega) ?_; intro v9 w9 hO9 hg9; rw [HMM.out] at hO9
         obtain ⟨A9, c9, hv9, hc9, hm9, hs9⟩ := hO9.sl
         subst hv9
         have HTK9 := Lib.hid (qtake_no HTN.out A9 M.length c9 w9 rfl hs9 hc9 hm9 (by omega))
         have HR9 := Lib.hid (HR8.out.grown hg9 (fun g hg => (HLB.out g hg).2))
         have HW9 := Lib.hid (HW8.out.grown hg9 (fun e => by have := (HLB.out _ e.symm).2; omega))
         have HB9 := Lib.hid (HB3.out.below hO9.bel)
         clear hO9 hg9 hs9 hm9)
      | (go_at_call 19; refine HTK9.out.mono ?_; rintro e w10 ⟨R10, rfl, hr10, hb10⟩
         have HR10 := Lib.hid hr10; have HB10 := Lib.hid hb10; clear hr10 hb10)
      | (refine wpList_store_row rfl 43 (.tmp 14) (.tmp 77) rfl w10.heap.size R10 rfl rfl _ _ (Wh.new _ _ _) HR10.out.info (by rw [HR10.out.size]; rfl) HR10.out.one ?_))
    obtain ⟨hw11, hb11⟩ := box_put HR10.out zRowQ
    unfold zRowQ at hw11 hb11
    have hr11 := (HR9.out.below HB10.out).below hb11
    have hx11 := (HW9.out.below HB10.out HW9.out.lt).below hb11 (Nat.lt_of_lt_of_le HW9.out.lt HB10.out.size)
    have HB11 := Lib.hid ((HB9.out.below HB10.out).below hb11)
    clear HTK9 HR9 HW9 HB9 HB10 hw11 hb11 HR10
    generalize World.setRow (w10.alloc (.cells #[.slice none 0 0, .slice none 0 0, .int .u64 0, .int .u64 0, .int .u64 0, .int .u64 0, .int .u64 0, .int .u64 0, .int .u64 0, .int .u64 0, .int .u64 0, .bool false, .int .u8 0, .int .u8 0, .int .u8 0, .int .u8 0, .int .u8 0, .int .u8 0, .int .u8 0, .int .u8 0, .int .u8 0, .int .u8 0, .int .u8 0, .int .u8 0, .int .u8 0, .int .u8 0, .int .u8 0, .int .u8 0] 43)) w10.heap.size R10 = w11 at *
    have HW11 := Lib.hid hx11
    have HSAME := Lib.hid (sameq_is HB11.out.is hr11.is)
    clear hr11 hx11 HSO8 HO8 HR8 HW8
    go_wp2_with (first
      | (refine wpList_load_q 43 (.tmp 4) rfl (by rfl) w.heap.size rfl _ R _ HB11.out.wh Tryd.underlying43 rfl HI.out ?_)
      | (refine wpList_load_q 43 (.tmp 13) rfl (by rfl) w7.heap.size rfl _ R7 _ HW11.out Tryd.underlying43 rfl HI7.out ?_)
      | (go_at_call 20; refine HSAME.out.mono ?_; rintro e w12 ⟨rfl, hb12⟩))
    go_ret
    exact ⟨rfl, (HB11.out.below hb12).bel⟩

theorem qothers_any (p : PQ) (A0 : Option Addr) (c0 : Nat) (A1 : Option Addr) (c1 : Nat) (id c : Nat) (A : Option Addr) (v : List UInt8) (ah : Bool) (w : World) (hT : Tab w) (ht : p.tok.length = 16)
    (h0 : Sl w w.heap.size A0 p.orig) (h1 : Sl w w.heap.size A1 p.cid) (q0 : p.orig.length ≤ 140737488351232) (q1 : p.cid.length ≤ 140737488351232) (hs : Sl w w.heap.size A v) :
    Calls Tryd.prog 6 #[.agg (prC A0 c0 A1 c1 p), .int .u64 (id : Int), .slice A v.length c, .bool ah] w fun e w' => e = .returned (.bool true) ∧ Below w.heap.size w w' := by
  cases hm : mayQ p
  · exact qothers_bad _ A0 c0 A1 c1 p rfl id v.length c A ah w hT ht h0 h1 q0 q1 hm
  by_cases hn : v.length ≤ 60
  case neg => exact qothers_free _ A0 c0 A1 c1 p rfl id v.length c A ah w hT ht h0 h1 hm (.inl (by omega))
  by_cases h16 : 16 ≤ id
  case neg => exact qothers_free _ A0 c0 A1 c1 p rfl id v.length c A ah w hT ht h0 h1 hm (.inr (.inl ⟨hn, by omega⟩))
  by_cases h60 : id ≤ 60
  case neg => exact qothers_free _ A0 c0 A1 c1 p rfl id v.length c A ah w hT ht h0 h1 hm (.inr (.inr ⟨hn, by omega⟩))
  exact qothers_main _ A0 c0 A1 c1 p rfl id v.length c A v ah w hT ht h0 h1 hm rfl hs hn h16 h60

end Go.Proofs.YtpnpbjdkldmmdaaDoor
