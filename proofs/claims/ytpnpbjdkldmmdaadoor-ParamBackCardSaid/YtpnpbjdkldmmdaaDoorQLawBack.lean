/-
  The walk through the statement ParamBack. PRINTED BY tools/gen_qback.py.
-/
import Derived.Test.YtpnpbjdkldmmdaaDoorQLawOth
namespace Go.Proofs.YtpnpbjdkldmmdaaDoor
open Go.RowKit
set_option linter.unusedVariables false

/-- What Take tells of what was appended twice. -/
def TwQ (w : World) (k : Int) (e : Ending) (w' : World) : Prop :=
  ∃ R, e = .returned (.tuple #[.agg R, .int .i64 k]) ∧ IsQ w' R zQ ∧ Below w.heap.size w w'

theorem take_nil : takeQ [] = some zQ := goQ_nil 0 [] zQ

set_option maxRecDepth 100000 in
set_option maxHeartbeats 3200000 in
theorem qback_long (R : Array Value) (A0 : Option Addr) (c0 : Nat) (A1 : Option Addr) (c1 : Nat) (p : PQ) (hR : R = prC A0 c0 A1 c1 p) (n c : Nat) (A : Option Addr) (l : List UInt8) (w : World) (hT : Tab w) (ht : p.tok.length = 16)
    (h0 : Sl w w.heap.size A0 p.orig) (h1 : Sl w w.heap.size A1 p.cid) (q0 : p.orig.length ≤ 140737488351232) (q1 : p.cid.length ≤ 140737488351232) (hl : l.length = n) (hs : Sl w w.heap.size A l) (hc : n ≤ c) (hmx : c ≤ maxLen) (hn : n ≤ 140737488351232) (hf : 2000 < p.orig.length + p.cid.length + n) :
    Calls Tryd.prog 5 #[.agg R, .slice A n c] w fun e w' => e = .returned (.bool true) ∧ Below w.heap.size w w' := by
  have hbx := BoxQ.new w R p A0 c0 A1 c1 hR ht h0 h1
  have HK := Lib.hid (qknown_any (w.alloc (.cells R 43)) (hT.below hbx.bel hT.lt))
  have HBX := Lib.hid hbx
  have HI := Lib.hid hbx.is.info
  have d1 : decide ((2000 : Int) < (p.orig.length : Int) + (p.cid.length : Int) + (n : Int)) = true := decide_eq_true (by omega)
  clear hbx hR ht h0 h1 hT hs hl
  go_enter Tryd.func5, Tryd.ntmps5
  go_wp2_with fail
  refine HK.out.mono ?_
  rintro e w1 ⟨rfl, hb1⟩
  have HB1 := Lib.hid (HBX.out.below hb1)
  clear hb1 HK HBX
  have e0 := HB1.out.e0
  have e1 := HB1.out.e1
  go_wp2_with fail
  go_ret
  exact ⟨rfl, HB1.out.bel⟩

set_option maxRecDepth 100000 in
set_option maxHeartbeats 3200000 in
theorem qback_bad (R : Array Value) (A0 : Option Addr) (c0 : Nat) (A1 : Option Addr) (c1 : Nat) (p : PQ) (hR : R = prC A0 c0 A1 c1 p) (n c : Nat) (A : Option Addr) (l : List UInt8) (w : World) (hT : Tab w) (ht : p.tok.length = 16)
    (h0 : Sl w w.heap.size A0 p.orig) (h1 : Sl w w.heap.size A1 p.cid) (q0 : p.orig.length ≤ 140737488351232) (q1 : p.cid.length ≤ 140737488351232) (hl : l.length = n) (hs : Sl w w.heap.size A l) (hc : n ≤ c) (hmx : c ≤ maxLen) (hb : p.orig.length + p.cid.length + n ≤ 2000) (hm : mayQ p = false) :
    Calls Tryd.prog 5 #[.agg R, .slice A n c] w fun e w' => e = .returned (.bool true) ∧ Below w.heap.size w w' := by
  have hbx := BoxQ.new w R p A0 c0 A1 c1 hR ht h0 h1
  have HK := Lib.hid (qknown_any (w.alloc (.cells R 43)) (hT.below hbx.bel hT.lt))
  have HBX := Lib.hid hbx
  have HI := Lib.hid hbx.is.info
  have HT := Lib.hid hT
  have HS := Lib.hid hs
  have HL := Lib.hid hl
  have HMX := Lib.hid hmx
  have d1 : decide ((2000 : Int) < (p.orig.length : Int) + (p.cid.length : Int) + (n : Int)) = false := decide_eq_false (by omega)
  have HM := Lib.hid hm
  clear hbx hR ht h0 h1 hT hs hl hmx hm
  go_enter Tryd.func5, Tryd.ntmps5
  go_wp2_with fail
  refine HK.out.mono ?_
  rintro e w1 ⟨rfl, hb1⟩
  have HB1 := Lib.hid (HBX.out.below hb1)
  clear hb1 HK HBX
  have e0 := HB1.out.e0
  have e1 := HB1.out.e1
  go_upto_region 11 with (first
    | (refine wpList_load_q 43 (.tmp 2) rfl (by rfl) w.heap.size rfl _ R _ HB1.out.wh Tryd.underlying43 rfl HI.out ?_)
    | (go_at_call 15; refine (qapp_isnt HB1.out.is HM.out _ _ _).mono ?_; rintro e wt ⟨rfl, hb2⟩; have HB2 := Lib.hid (HB1.out.below hb2); clear hb2))
  have HBT := Lib.hid HB2.out.bel
  clear e0 e1 d1 HB1 HB2 HM
  have HSL := Lib.hid ((HS.out.below HBT.out).keep HBT.out.size (fun _ _ => rfl))
  cases htk : takeQ l with
  | none =>
    have HTK := Lib.hid (qtake_no htk A n c wt HL.out HSL.out hc HMX.out (by omega))
    clear htk
    go_upto_region 12 with (first
      | (go_at_call 19; refine HTK.out.mono ?_; rintro e w20 ⟨R20, rfl, hR20, hbw20⟩; have HR20 := Lib.hid hR20; have HBw20 := Lib.hid hbw20; clear hR20 hbw20)
      | (refine wpList_store_row rfl 43 (.tmp 11) (.tmp 69) rfl w20.heap.size R20 rfl rfl _ _ (Wh.new _ _ _) HR20.out.info (by rw [HR20.out.size]; rfl) HR20.out.one ?_))
    obtain ⟨hww21, hbw21⟩ := box_put HR20.out zRowQ
    unfold zRowQ at hww21 hbw21
    have hrw21 := HR20.out.below hbw21
    have HXw21 := Lib.hid hbw21
    have HWw21 := Lib.hid hww21
    have HIw21 := Lib.hid HR20.out.info
    clear hww21 hbw21 HR20
    generalize World.setRow (w20.alloc (.cells #[.slice none 0 0, .slice none 0 0, .int .u64 0, .int .u64 0, .int .u64 0, .int .u64 0, .int .u64 0, .int .u64 0, .int .u64 0, .int .u64 0, .int .u64 0, .bool false, .int .u8 0, .int .u8 0, .int .u8 0, .int .u8 0, .int .u8 0, .int .u8 0, .int .u8 0, .int .u8 0, .int .u8 0, .int .u8 0, .int .u8 0, .int .u8 0, .int .u8 0, .int .u8 0, .int .u8 0, .int .u8 0] 43)) w20.heap.size R20 = w21 at *
    have HRw21 := Lib.hid hrw21
    clear hrw21
    have HB21 := Lib.hid (HBT.out.trans ((HBw20.out.trans (HXw21.out.mono HBw20.out.size)).mono HBT.out.size))
    go_wp2_with fail
    go_ret
    exact ⟨rfl, HB21.out⟩
  | some q =>
    obtain ⟨hq1, hq2, hq3⟩ := take_may htk
    have htq := take_bytes hq1 hq2
    have HQ1 := Lib.hid hq1
    have HTK := Lib.hid (qtake_ok htk A n c wt HL.out HSL.out hc HMX.out (by omega))
    rw [HL.out] at hq3
    clear htk hq1 hq2
    obtain ⟨C, hC⟩ : ∃ C, bytesQ q = C := ⟨_, rfl⟩
    rw [hC] at htq hq3
    have HTQ := Lib.hid htq
    have HC := Lib.hid hC
    have hcn : decide ((C.length : Int) ≤ (n : Int)) = true := decide_eq_true (by omega)
    clear htq hC
    go_upto_region 14 with (first
      | (go_at_call 19; refine HTK.out.mono ?_; rintro e w20 ⟨R20, rfl, hR20, hbw20⟩; have HR20 := Lib.hid hR20.is; have HBw20 := Lib.hid hbw20; clear hR20 hbw20)
      | (refine wpList_store_row rfl 43 (.tmp 11) (.tmp 69) rfl w20.heap.size R20 rfl rfl _ _ (Wh.new _ _ _) HR20.out.info (by rw [HR20.out.size]; rfl) HR20.out.one ?_))
    obtain ⟨hww21, hbw21⟩ := box_put HR20.out zRowQ
    unfold zRowQ at hww21 hbw21
    have hrw21 := HR20.out.below hbw21
    have HXw21 := Lib.hid hbw21
    have HWw21 := Lib.hid hww21
    have HIw21 := Lib.hid HR20.out.info
    clear hww21 hbw21 HR20
    generalize World.setRow (w20.alloc (.cells #[.slice none 0 0, .slice none 0 0, .int .u64 0, .int .u64 0, .int .u64 0, .int .u64 0, .int .u64 0, .int .u64 0, .int .u64 0, .int .u64 0, .int .u64 0, .bool false, .int .u8 0, .int .u8 0, .int .u8 0, .int .u8 0, .int .u8 0, .int .u8 0, .int .u8 0, .int .u8 0, .int .u8 0, .int .u8 0, .int .u8 0, .int .u8 0, .int .u8 0, .int .u8 0, .int .u8 0, .int .u8 0] 43)) w20.heap.size R20 = w21 at *
    have HRw21 := Lib.hid hrw21
    clear hrw21
    have HB21 := Lib.hid (HBT.out.trans ((HBw20.out.trans (HXw21.out.mono HBw20.out.size)).mono HBT.out.size))
    have happ := qapp_is HRw21.out HQ1.out (HT.out.below HB21.out HT.out.lt) none 0 0 [] rfl (Sv.nil _ _ _) (Nat.zero_le _)
    rw [List.nil_append, HC.out] at happ
    have HAPP2 := Lib.hid happ
    clear happ HTK HSL
    go_upto_region 15 with (first
      | (refine wpList_load_q 43 (.tmp 11) rfl (by rfl) w20.heap.size rfl _ R20 _ HWw21.out Tryd.underlying43 rfl HIw21.out ?_)
      | (go_at_call 15; refine HAPP2.out.mono ?_; rintro e w22 ⟨A22, c22, rfl, hc22, hm22, hown22, hb22⟩))
    have HB22 := Lib.hid hb22
    have HTK2 := Lib.hid (qtake_ok HTQ.out A22 C.length c22 w22 rfl (Sv.of_own hown22) hc22 hm22 (by omega))
    clear hb22 hown22 HAPP2
    go_upto_region 16 with (first
      | (go_at_call 19; refine HTK2.out.mono ?_; rintro e w23 ⟨R23, rfl, hR23, hbw23⟩; have HR23 := Lib.hid hR23.is; have HBw23 := Lib.hid hbw23; clear hR23 hbw23)
      | (refine wpList_store_row rfl 43 (.tmp 14) (.tmp 81) rfl w23.heap.size R23 rfl rfl _ _ (Wh.new _ _ _) HR23.out.info (by rw [HR23.out.size]; rfl) HR23.out.one ?_))
    obtain ⟨hww24, hbw24⟩ := box_put HR23.out zRowQ
    unfold zRowQ at hww24 hbw24
    have hrw24 := HR23.out.below hbw24
    have HXw24 := Lib.hid hbw24
    have HWw24 := Lib.hid hww24
    have HIw24 := Lib.hid HR23.out.info
    clear hww24 hbw24 HR23
    generalize World.setRow (w23.alloc (.cells #[.slice none 0 0, .slice none 0 0, .int .u64 0, .int .u64 0, .int .u64 0, .int .u64 0, .int .u64 0, .int .u64 0, .int .u64 0, .int .u64 0, .int .u64 0, .bool false, .int .u8 0, .int .u8 0, .int .u8 0, .int .u8 0, .int .u8 0, .int .u8 0, .int .u8 0, .int .u8 0, .int .u8 0, .int .u8 0, .int .u8 0, .int .u8 0, .int .u8 0, .int .u8 0, .int .u8 0, .int .u8 0] 43)) w23.heap.size R23 = w24 at *
    have HRw24 := Lib.hid hrw24
    clear hrw24
    have hx := (HBw23.out.trans (HXw24.out.mono HBw23.out.size))
    have hy := HB22.out.trans (hx.mono HB22.out.size)
    have HW2 := Lib.hid (HWw21.out.below hy HWw21.out.lt)
    have HB24 := Lib.hid (HB21.out.trans (hy.mono HB21.out.size))
    have HSAME2 := Lib.hid (sameq_is HRw24.out (HRw21.out.below hy))
    clear hx hy HTK2 HB22 HWw21 HRw21 HRw24
    go_wp2_with (first
      | (refine wpList_load_q 43 (.tmp 14) rfl (by rfl) w23.heap.size rfl _ R23 _ HWw24.out Tryd.underlying43 rfl HIw24.out ?_)
      | (refine wpList_load_q 43 (.tmp 11) rfl (by rfl) w20.heap.size rfl _ R20 _ HW2.out Tryd.underlying43 rfl HIw21.out ?_)
      | (go_at_call 20; refine HSAME2.out.mono ?_; rintro e w25 ⟨rfl, hb25⟩))
    go_ret
    exact ⟨rfl, HB24.out.trans (hb25.mono HB24.out.size)⟩

set_option maxRecDepth 100000 in
set_option maxHeartbeats 3200000 in
theorem qback_may (R : Array Value) (A0 : Option Addr) (c0 : Nat) (A1 : Option Addr) (c1 : Nat) (p : PQ) (hR : R = prC A0 c0 A1 c1 p) (n c : Nat) (A : Option Addr) (l : List UInt8) (w : World) (hT : Tab w) (ht : p.tok.length = 16)
    (h0 : Sl w w.heap.size A0 p.orig) (h1 : Sl w w.heap.size A1 p.cid) (q0 : p.orig.length ≤ 140737488351232) (q1 : p.cid.length ≤ 140737488351232) (hl : l.length = n) (hs : Sl w w.heap.size A l) (hc : n ≤ c) (hmx : c ≤ maxLen) (hb : p.orig.length + p.cid.length + n ≤ 2000) (hm : mayQ p = true) :
    Calls Tryd.prog 5 #[.agg R, .slice A n c] w fun e w' => e = .returned (.bool true) ∧ Below w.heap.size w w' := by
  have hbx := BoxQ.new w R p A0 c0 A1 c1 hR ht h0 h1
  have HK := Lib.hid (qknown_any (w.alloc (.cells R 43)) (hT.below hbx.bel hT.lt))
  have HBX := Lib.hid hbx
  have HI := Lib.hid hbx.is.info
  have HT := Lib.hid hT
  have HS := Lib.hid hs
  have HL := Lib.hid hl
  have HMX := Lib.hid hmx
  have d1 : decide ((2000 : Int) < (p.orig.length : Int) + (p.cid.length : Int) + (n : Int)) = false := decide_eq_false (by omega)
  have hbl : (bytesQ p).length ≤ 640 := told_max hm ht 16
  have HTB := Lib.hid (take_bytes hm ht)
  have htw := take_twice hm ht
  have HAPP := Lib.hid (fun (wr : World) (h : BoxQ w wr w.heap.size R p A0 c0 A1 c1) => qapp_is h.is hm (hT.below h.bel hT.lt) none 0 0 [] rfl (Sv.nil _ _ _) (Nat.zero_le _))
  obtain ⟨B, hB⟩ : ∃ B, bytesQ p = B := ⟨_, rfl⟩
  rw [hB] at hbl HAPP HTB htw
  rw [List.nil_append] at HAPP
  obtain ⟨M, hM⟩ : ∃ M, B ++ B = M := ⟨_, rfl⟩
  have hml : M.length ≤ 1280 := by rw [← hM, List.length_append]; omega
  have HMM := Lib.hid hM
  rw [hM] at htw
  clear hbx hR ht h0 h1 hT hs hl hmx hm hB
  by_cases hB0 : B = []
  · have hz : ((B.length : Int) == 0) = true := by rw [hB0]; rfl
    have HTW : Hid (∀ (A' : Option Addr) (c' : Nat) (w' : World), Sl w' w'.heap.size A' M → M.length ≤ c' → c' ≤ maxLen → Calls Tryd.prog 19 #[.slice A' M.length c'] w' (TwQ w' 0)) := fun A' c' w' h1 h2 h3 => by
      refine (qtake_ok (q := zQ) (by rw [← hM, hB0]; exact take_nil) A' M.length c' w' rfl h1 h2 h3 (by omega)).mono ?_
      rintro e w2 ⟨R, he, hi, hb⟩
      exact ⟨R, he, hi.is, hb⟩
    clear hB0 hM htw
    go_enter Tryd.func5, Tryd.ntmps5
    go_wp2_with fail
    refine HK.out.mono ?_
    rintro e w1 ⟨rfl, hb1⟩
    have HB1 := Lib.hid (HBX.out.below hb1)
    clear hb1 HK HBX
    have e0 := HB1.out.e0
    have e1 := HB1.out.e1
    go_upto_region 7 with (first
      | (refine wpList_load_q 43 (.tmp 2) rfl (by rfl) w.heap.size rfl _ R _ HB1.out.wh Tryd.underlying43 rfl HI.out ?_)
      | (go_at_call 15; refine (HAPP.out _ HB1.out).mono ?_; rintro e w2 ⟨A2, c2, rfl, hc2, hm2, hown2, hb2⟩; have HB2 := Lib.hid (HB1.out.below hb2); have HS2 := Lib.hid (Sv.of_own hown2); clear hb2 hown2))
    have HTK1 := Lib.hid (qtake_ok HTB.out A2 B.length c2 w2 rfl HS2.out hc2 hm2 (by omega))
    clear e0 e1 d1 HB1 HAPP
    go_upto_region 8 with (first
      | (go_at_call 19; refine HTK1.out.mono ?_; rintro e w3 ⟨R3, rfl, hR3, hbw3⟩; have HR3 := Lib.hid hR3.is; have HBw3 := Lib.hid hbw3; clear hR3 hbw3)
      | (refine wpList_store_row rfl 43 (.tmp 7) (.tmp 39) rfl w3.heap.size R3 rfl rfl _ _ (Wh.new _ _ _) HR3.out.info (by rw [HR3.out.size]; rfl) HR3.out.one ?_))
    obtain ⟨hww4, hbw4⟩ := box_put HR3.out zRowQ
    unfold zRowQ at hww4 hbw4
    have hrw4 := HR3.out.below hbw4
    have HXw4 := Lib.hid hbw4
    have HWw4 := Lib.hid hww4
    have HIw4 := Lib.hid HR3.out.info
    clear hww4 hbw4 HR3
    generalize World.setRow (w3.alloc (.cells #[.slice none 0 0, .slice none 0 0, .int .u64 0, .int .u64 0, .int .u64 0, .int .u64 0, .int .u64 0, .int .u64 0, .int .u64 0, .int .u64 0, .int .u64 0, .bool false, .int .u8 0, .int .u8 0, .int .u8 0, .int .u8 0, .int .u8 0, .int .u8 0, .int .u8 0, .int .u8 0, .int .u8 0, .int .u8 0, .int .u8 0, .int .u8 0, .int .u8 0, .int .u8 0, .int .u8 0, .int .u8 0] 43)) w3.heap.size R3 = w4 at *
    have HRw4 := Lib.hid hrw4
    clear hrw4
    have hx4 := HBw3.out.trans (HXw4.out.mono HBw3.out.size)
    have HB4 := Lib.hid (HB2.out.below hx4)
    have hs4 := (HS2.out.below hx4).keep hx4.size (fun _ _ => rfl)
    have hO4 := OB.lit (w := w4) #[] [] 0 rfl rfl (by omega)
    have HSa4 := Lib.hid ((hs4.below hO4.bel).keep hO4.bel.size (fun _ _ => rfl))
    have HSb4 := Lib.hid hs4
    have HO4 := Lib.hid hO4
    clear hO4 hs4 hx4 HS2 HBw3 HXw4 HB2 HTK1
    go_upto_region 9 with (first
      | (at_builtin; refine wpList_app_ob rfl (.tmp 42) (.tmp 43) rfl _ _ rfl HO4.out A2 B.length c2 B rfl HSa4.out rfl (by simp; omega) ?_; intro v5 w5 hO5 hg5; have HO5 := Lib.hid hO5; have HSb5 := Lib.hid ((HSb4.out.below hO5.bel).keep hO5.bel.size (fun _ _ => rfl)); clear hO5 hg5)
      | (at_builtin; refine wpList_app_ob rfl (.tmp 44) (.tmp 45) rfl _ _ rfl HO5.out A2 B.length c2 B rfl HSb5.out rfl (by simp; omega) ?_; intro v6 w6 hO6 hg6; rw [List.nil_append, HMM.out] at hO6; obtain ⟨A6, c6, hv6, hc6, hm6, hs6⟩ := hO6.sl; subst hv6; have HTK6 := Lib.hid (HTW.out A6 c6 w6 hs6 hc6 hm6); have HB6 := Lib.hid (HB4.out.below hO6.bel); have HW6 := Lib.hid (HWw4.out.below hO6.bel HWw4.out.lt); have HR6 := Lib.hid (HRw4.out.below hO6.bel); clear hO6 hg6 hs6 hm6)
      | (go_at_call 19; refine HTK6.out.mono ?_; rintro e w7 ⟨R7, rfl, hR7, hbw7⟩; have HR7 := Lib.hid hR7; have HBw7 := Lib.hid hbw7; clear hR7 hbw7)
      | (refine wpList_store_row rfl 43 (.tmp 9) (.tmp 48) rfl w7.heap.size R7 rfl rfl _ _ (Wh.new _ _ _) HR7.out.info (by rw [HR7.out.size]; rfl) HR7.out.one ?_))
    obtain ⟨hww8, hbw8⟩ := box_put HR7.out zRowQ
    unfold zRowQ at hww8 hbw8
    have hrw8 := HR7.out.below hbw8
    have HXw8 := Lib.hid hbw8
    have HWw8 := Lib.hid hww8
    have HIw8 := Lib.hid HR7.out.info
    clear hww8 hbw8 HR7
    generalize World.setRow (w7.alloc (.cells #[.slice none 0 0, .slice none 0 0, .int .u64 0, .int .u64 0, .int .u64 0, .int .u64 0, .int .u64 0, .int .u64 0, .int .u64 0, .int .u64 0, .int .u64 0, .bool false, .int .u8 0, .int .u8 0, .int .u8 0, .int .u8 0, .int .u8 0, .int .u8 0, .int .u8 0, .int .u8 0, .int .u8 0, .int .u8 0, .int .u8 0, .int .u8 0, .int .u8 0, .int .u8 0, .int .u8 0, .int .u8 0] 43)) w7.heap.size R7 = w8 at *
    have HRw8 := Lib.hid hrw8
    clear hrw8
    have hx8 := HBw7.out.trans (HXw8.out.mono HBw7.out.size)
    have HB8 := Lib.hid (HB6.out.below hx8)
    have HW8 := Lib.hid (HW6.out.below hx8 HW6.out.lt)
    have HSAME := Lib.hid (sameq_is HB8.out.is (HR6.out.below hx8))
    clear hx8 HB6 HW6 HR6 HTK6 HBw7 HXw8 HRw8 HWw8 HB4 HSa4 HSb4 HO4 HO5 HSb5 HWw4 HRw4
    go_upto_region 11 with (first
      | (refine wpList_load_q 43 (.tmp 2) rfl (by rfl) w.heap.size rfl _ R _ HB8.out.wh Tryd.underlying43 rfl HI.out ?_)
      | (refine wpList_load_q 43 (.tmp 7) rfl (by rfl) w3.heap.size rfl _ R3 _ HW8.out Tryd.underlying43 rfl HIw4.out ?_)
      | (go_at_call 20; refine HSAME.out.mono ?_; rintro e wt ⟨rfl, hb9⟩))
    have HBT := Lib.hid (HB8.out.below hb9).bel
    clear hb9 HB8 HW8 HSAME
    have HSL := Lib.hid ((HS.out.below HBT.out).keep HBT.out.size (fun _ _ => rfl))
    cases htk : takeQ l with
    | none =>
      have HTK := Lib.hid (qtake_no htk A n c wt HL.out HSL.out hc HMX.out (by omega))
      clear htk
      go_upto_region 12 with (first
        | (go_at_call 19; refine HTK.out.mono ?_; rintro e w20 ⟨R20, rfl, hR20, hbw20⟩; have HR20 := Lib.hid hR20; have HBw20 := Lib.hid hbw20; clear hR20 hbw20)
        | (refine wpList_store_row rfl 43 (.tmp 11) (.tmp 69) rfl w20.heap.size R20 rfl rfl _ _ (Wh.new _ _ _) HR20.out.info (by rw [HR20.out.size]; rfl) HR20.out.one ?_))
      obtain ⟨hww21, hbw21⟩ := box_put HR20.out zRowQ
      unfold zRowQ at hww21 hbw21
      have hrw21 := HR20.out.below hbw21
      have HXw21 := Lib.hid hbw21
      have HWw21 := Lib.hid hww21
      have HIw21 := Lib.hid HR20.out.info
      clear hww21 hbw21 HR20
      generalize World.setRow (w20.alloc (.cells #[.slice none 0 0, .slice none 0 0, .int .u64 0, .int .u64 0, .int .u64 0, .int .u64 0, .int .u64 0, .int .u64 0, .int .u64 0, .int .u64 0, .int .u64 0, .bool false, .int .u8 0, .int .u8 0, .int .u8 0, .int .u8 0, .int .u8 0, .int .u8 0, .int .u8 0, .int .u8 0, .int .u8 0, .int .u8 0, .int .u8 0, .int .u8 0, .int .u8 0, .int .u8 0, .int .u8 0, .int .u8 0] 43)) w20.heap.size R20 = w21 at *
      have HRw21 := Lib.hid hrw21
      clear hrw21
      have HB21 := Lib.hid (HBT.out.trans ((HBw20.out.trans (HXw21.out.mono HBw20.out.size)).mono HBT.out.size))
      go_wp2_with fail
      go_ret
      exact ⟨rfl, HB21.out⟩
    | some q =>
      obtain ⟨hq1, hq2, hq3⟩ := take_may htk
      have htq := take_bytes hq1 hq2
      have HQ1 := Lib.hid hq1
      have HTK := Lib.hid (qtake_ok htk A n c wt HL.out HSL.out hc HMX.out (by omega))
      rw [HL.out] at hq3
      clear htk hq1 hq2
      obtain ⟨C, hC⟩ : ∃ C, bytesQ q = C := ⟨_, rfl⟩
      rw [hC] at htq hq3
      have HTQ := Lib.hid htq
      have HC := Lib.hid hC
      have hcn : decide ((C.length : Int) ≤ (n : Int)) = true := decide_eq_true (by omega)
      clear htq hC
      go_upto_region 14 with (first
        | (go_at_call 19; refine HTK.out.mono ?_; rintro e w20 ⟨R20, rfl, hR20, hbw20⟩; have HR20 := Lib.hid hR20.is; have HBw20 := Lib.hid hbw20; clear hR20 hbw20)
        | (refine wpList_store_row rfl 43 (.tmp 11) (.tmp 69) rfl w20.heap.size R20 rfl rfl _ _ (Wh.new _ _ _) HR20.out.info (by rw [HR20.out.size]; rfl) HR20.out.one ?_))
      obtain ⟨hww21, hbw21⟩ := box_put HR20.out zRowQ
      unfold zRowQ at hww21 hbw21
      have hrw21 := HR20.out.below hbw21
      have HXw21 := Lib.hid hbw21
      have HWw21 := Lib.hid hww21
      have HIw21 := Lib.hid HR20.out.info
      clear hww21 hbw21 HR20
      generalize World.setRow (w20.alloc (.cells #[.slice none 0 0, .slice none 0 0, .int .u64 0, .int .u64 0, .int .u64 0, .int .u64 0, .int .u64 0, .int .u64 0, .int .u64 0, .int .u64 0, .int .u64 0, .bool false, .int .u8 0, .int .u8 0, .int .u8 0, .int .u8 0, .int .u8 0, .int .u8 0, .int .u8 0, .int .u8 0, .int .u8 0, .int .u8 0, .int .u8 0, .int .u8 0, .int .u8 0, .int .u8 0, .int .u8 0, .int .u8 0] 43)) w20.heap.size R20 = w21 at *
      have HRw21 := Lib.hid hrw21
      clear hrw21
      have HB21 := Lib.hid (HBT.out.trans ((HBw20.out.trans (HXw21.out.mono HBw20.out.size)).mono HBT.out.size))
      have happ := qapp_is HRw21.out HQ1.out (HT.out.below HB21.out HT.out.lt) none 0 0 [] rfl (Sv.nil _ _ _) (Nat.zero_le _)
      rw [List.nil_append, HC.out] at happ
      have HAPP2 := Lib.hid happ
      clear happ HTK HSL
      go_upto_region 15 with (first
        | (refine wpList_load_q 43 (.tmp 11) rfl (by rfl) w20.heap.size rfl _ R20 _ HWw21.out Tryd.underlying43 rfl HIw21.out ?_)
        | (go_at_call 15; refine HAPP2.out.mono ?_; rintro e w22 ⟨A22, c22, rfl, hc22, hm22, hown22, hb22⟩))
      have HB22 := Lib.hid hb22
      have HTK2 := Lib.hid (qtake_ok HTQ.out A22 C.length c22 w22 rfl (Sv.of_own hown22) hc22 hm22 (by omega))
      clear hb22 hown22 HAPP2
      go_upto_region 16 with (first
        | (go_at_call 19; refine HTK2.out.mono ?_; rintro e w23 ⟨R23, rfl, hR23, hbw23⟩; have HR23 := Lib.hid hR23.is; have HBw23 := Lib.hid hbw23; clear hR23 hbw23)
        | (refine wpList_store_row rfl 43 (.tmp 14) (.tmp 81) rfl w23.heap.size R23 rfl rfl _ _ (Wh.new _ _ _) HR23.out.info (by rw [HR23.out.size]; rfl) HR23.out.one ?_))
      obtain ⟨hww24, hbw24⟩ := box_put HR23.out zRowQ
      unfold zRowQ at hww24 hbw24
      have hrw24 := HR23.out.below hbw24
      have HXw24 := Lib.hid hbw24
      have HWw24 := Lib.hid hww24
      have HIw24 := Lib.hid HR23.out.info
      clear hww24 hbw24 HR23
      generalize World.setRow (w23.alloc (.cells #[.slice none 0 0, .slice none 0 0, .int .u64 0, .int .u64 0, .int .u64 0, .int .u64 0, .int .u64 0, .int .u64 0, .int .u64 0, .int .u64 0, .int .u64 0, .bool false, .int .u8 0, .int .u8 0, .int .u8 0, .int .u8 0, .int .u8 0, .int .u8 0, .int .u8 0, .int .u8 0, .int .u8 0, .int .u8 0, .int .u8 0, .int .u8 0, .int .u8 0, .int .u8 0, .int .u8 0, .int .u8 0] 43)) w23.heap.size R23 = w24 at *
      have HRw24 := Lib.hid hrw24
      clear hrw24
      have hx := (HBw23.out.trans (HXw24.out.mono HBw23.out.size))
      have hy := HB22.out.trans (hx.mono HB22.out.size)
      have HW2 := Lib.hid (HWw21.out.below hy HWw21.out.lt)
      have HB24 := Lib.hid (HB21.out.trans (hy.mono HB21.out.size))
      have HSAME2 := Lib.hid (sameq_is HRw24.out (HRw21.out.below hy))
      clear hx hy HTK2 HB22 HWw21 HRw21 HRw24
      go_wp2_with (first
        | (refine wpList_load_q 43 (.tmp 14) rfl (by rfl) w23.heap.size rfl _ R23 _ HWw24.out Tryd.underlying43 rfl HIw24.out ?_)
        | (refine wpList_load_q 43 (.tmp 11) rfl (by rfl) w20.heap.size rfl _ R20 _ HW2.out Tryd.underlying43 rfl HIw21.out ?_)
        | (go_at_call 20; refine HSAME2.out.mono ?_; rintro e w25 ⟨rfl, hb25⟩))
      go_ret
      exact ⟨rfl, HB24.out.trans (hb25.mono HB24.out.size)⟩
  · have hz : ((B.length : Int) == 0) = false := by
      rw [beq_eq_false_iff_ne]
      intro e
      exact hB0 (List.eq_nil_of_length_eq_zero (by omega))
    have HTW : Hid (∀ (A' : Option Addr) (c' : Nat) (w' : World), Sl w' w'.heap.size A' M → M.length ≤ c' → c' ≤ maxLen → Calls Tryd.prog 19 #[.slice A' M.length c'] w' (TwQ w' 2)) := fun A' c' w' h1 h2 h3 =>
      qtake_no (htw hB0) A' M.length c' w' rfl h1 h2 h3 (by omega)
    clear hB0 hM htw
    go_enter Tryd.func5, Tryd.ntmps5
    go_wp2_with fail
    refine HK.out.mono ?_
    rintro e w1 ⟨rfl, hb1⟩
    have HB1 := Lib.hid (HBX.out.below hb1)
    clear hb1 HK HBX
    have e0 := HB1.out.e0
    have e1 := HB1.out.e1
    go_upto_region 7 with (first
      | (refine wpList_load_q 43 (.tmp 2) rfl (by rfl) w.heap.size rfl _ R _ HB1.out.wh Tryd.underlying43 rfl HI.out ?_)
      | (go_at_call 15; refine (HAPP.out _ HB1.out).mono ?_; rintro e w2 ⟨A2, c2, rfl, hc2, hm2, hown2, hb2⟩; have HB2 := Lib.hid (HB1.out.below hb2); have HS2 := Lib.hid (Sv.of_own hown2); clear hb2 hown2))
    have HTK1 := Lib.hid (qtake_ok HTB.out A2 B.length c2 w2 rfl HS2.out hc2 hm2 (by omega))
    clear e0 e1 d1 HB1 HAPP
    go_upto_region 8 with (first
      | (go_at_call 19; refine HTK1.out.mono ?_; rintro e w3 ⟨R3, rfl, hR3, hbw3⟩; have HR3 := Lib.hid hR3.is; have HBw3 := Lib.hid hbw3; clear hR3 hbw3)
      | (refine wpList_store_row rfl 43 (.tmp 7) (.tmp 39) rfl w3.heap.size R3 rfl rfl _ _ (Wh.new _ _ _) HR3.out.info (by rw [HR3.out.size]; rfl) HR3.out.one ?_))
    obtain ⟨hww4, hbw4⟩ := box_put HR3.out zRowQ
    unfold zRowQ at hww4 hbw4
    have hrw4 := HR3.out.below hbw4
    have HXw4 := Lib.hid hbw4
    have HWw4 := Lib.hid hww4
    have HIw4 := Lib.hid HR3.out.info
    clear hww4 hbw4 HR3
    generalize World.setRow (w3.alloc (.cells #[.slice none 0 0, .slice none 0 0, .int .u64 0, .int .u64 0, .int .u64 0, .int .u64 0, .int .u64 0, .int .u64 0, .int .u64 0, .int .u64 0, .int .u64 0, .bool false, .int .u8 0, .int .u8 0, .int .u8 0, .int .u8 0, .int .u8 0, .int .u8 0, .int .u8 0, .int .u8 0, .int .u8 0, .int .u8 0, .int .u8 0, .int .u8 0, .int .u8 0, .int .u8 0, .int .u8 0, .int .u8 0] 43)) w3.heap.size R3 = w4 at *
    have HRw4 := Lib.hid hrw4
    clear hrw4
    have hx4 := HBw3.out.trans (HXw4.out.mono HBw3.out.size)
    have HB4 := Lib.hid (HB2.out.below hx4)
    have hs4 := (HS2.out.below hx4).keep hx4.size (fun _ _ => rfl)
    have hO4 := OB.lit (w := w4) #[] [] 0 rfl rfl (by omega)
    have HSa4 := Lib.hid ((hs4.below hO4.bel).keep hO4.bel.size (fun _ _ => rfl))
    have HSb4 := Lib.hid hs4
    have HO4 := Lib.hid hO4
    clear hO4 hs4 hx4 HS2 HBw3 HXw4 HB2 HTK1
    go_upto_region 9 with (first
      | (at_builtin; refine wpList_app_ob rfl (.tmp 42) (.tmp 43) rfl _ _ rfl HO4.out A2 B.length c2 B rfl HSa4.out rfl (by simp; omega) ?_; intro v5 w5 hO5 hg5; have HO5 := Lib.hid hO5; have HSb5 := Lib.hid ((HSb4.out.below hO5.bel).keep hO5.bel.size (fun _ _ => rfl)); clear hO5 hg5)
      | (at_builtin; refine wpList_app_ob rfl (.tmp 44) (.tmp 45) rfl _ _ rfl HO5.out A2 B.length c2 B rfl HSb5.out rfl (by simp; omega) ?_; intro v6 w6 hO6 hg6; rw [List.nil_append, HMM.out] at hO6; obtain ⟨A6, c6, hv6, hc6, hm6, hs6⟩ := hO6.sl; subst hv6; have HTK6 := Lib.hid (HTW.out A6 c6 w6 hs6 hc6 hm6); have HB6 := Lib.hid (HB4.out.below hO6.bel); have HW6 := Lib.hid (HWw4.out.below hO6.bel HWw4.out.lt); have HR6 := Lib.hid (HRw4.out.below hO6.bel); clear hO6 hg6 hs6 hm6)
      | (go_at_call 19; refine HTK6.out.mono ?_; rintro e w7 ⟨R7, rfl, hR7, hbw7⟩; have HR7 := Lib.hid hR7; have HBw7 := Lib.hid hbw7; clear hR7 hbw7)
      | (refine wpList_store_row rfl 43 (.tmp 9) (.tmp 48) rfl w7.heap.size R7 rfl rfl _ _ (Wh.new _ _ _) HR7.out.info (by rw [HR7.out.size]; rfl) HR7.out.one ?_))
    obtain ⟨hww8, hbw8⟩ := box_put HR7.out zRowQ
    unfold zRowQ at hww8 hbw8
    have hrw8 := HR7.out.below hbw8
    have HXw8 := Lib.hid hbw8
    have HWw8 := Lib.hid hww8
    have HIw8 := Lib.hid HR7.out.info
    clear hww8 hbw8 HR7
    generalize World.setRow (w7.alloc (.cells #[.slice none 0 0, .slice none 0 0, .int .u64 0, .int .u64 0, .int .u64 0, .int .u64 0, .int .u64 0, .int .u64 0, .int .u64 0, .int .u64 0, .int .u64 0, .bool false, .int .u8 0, .int .u8 0, .int .u8 0, .int .u8 0, .int .u8 0, .int .u8 0, .int .u8 0, .int .u8 0, .int .u8 0, .int .u8 0, .int .u8 0, .int .u8 0, .int .u8 0, .int .u8 0, .int .u8 0, .int .u8 0] 43)) w7.heap.size R7 = w8 at *
    have HRw8 := Lib.hid hrw8
    clear hrw8
    have hx8 := HBw7.out.trans (HXw8.out.mono HBw7.out.size)
    have HB8 := Lib.hid (HB6.out.below hx8)
    have HW8 := Lib.hid (HW6.out.below hx8 HW6.out.lt)
    have HSAME := Lib.hid (sameq_is HB8.out.is (HR6.out.below hx8))
    clear hx8 HB6 HW6 HR6 HTK6 HBw7 HXw8 HRw8 HWw8 HB4 HSa4 HSb4 HO4 HO5 HSb5 HWw4 HRw4
    go_upto_region 11 with (first
      | (refine wpList_load_q 43 (.tmp 2) rfl (by rfl) w.heap.size rfl _ R _ HB8.out.wh Tryd.underlying43 rfl HI.out ?_)
      | (refine wpList_load_q 43 (.tmp 7) rfl (by rfl) w3.heap.size rfl _ R3 _ HW8.out Tryd.underlying43 rfl HIw4.out ?_)
      | (go_at_call 20; refine HSAME.out.mono ?_; rintro e wt ⟨rfl, hb9⟩))
    have HBT := Lib.hid (HB8.out.below hb9).bel
    clear hb9 HB8 HW8 HSAME
    have HSL := Lib.hid ((HS.out.below HBT.out).keep HBT.out.size (fun _ _ => rfl))
    cases htk : takeQ l with
    | none =>
      have HTK := Lib.hid (qtake_no htk A n c wt HL.out HSL.out hc HMX.out (by omega))
      clear htk
      go_upto_region 12 with (first
        | (go_at_call 19; refine HTK.out.mono ?_; rintro e w20 ⟨R20, rfl, hR20, hbw20⟩; have HR20 := Lib.hid hR20; have HBw20 := Lib.hid hbw20; clear hR20 hbw20)
        | (refine wpList_store_row rfl 43 (.tmp 11) (.tmp 69) rfl w20.heap.size R20 rfl rfl _ _ (Wh.new _ _ _) HR20.out.info (by rw [HR20.out.size]; rfl) HR20.out.one ?_))
      obtain ⟨hww21, hbw21⟩ := box_put HR20.out zRowQ
      unfold zRowQ at hww21 hbw21
      have hrw21 := HR20.out.below hbw21
      have HXw21 := Lib.hid hbw21
      have HWw21 := Lib.hid hww21
      have HIw21 := Lib.hid HR20.out.info
      clear hww21 hbw21 HR20
      generalize World.setRow (w20.alloc (.cells #[.slice none 0 0, .slice none 0 0, .int .u64 0, .int .u64 0, .int .u64 0, .int .u64 0, .int .u64 0, .int .u64 0, .int .u64 0, .int .u64 0, .int .u64 0, .bool false, .int .u8 0, .int .u8 0, .int .u8 0, .int .u8 0, .int .u8 0, .int .u8 0, .int .u8 0, .int .u8 0, .int .u8 0, .int .u8 0, .int .u8 0, .int .u8 0, .int .u8 0, .int .u8 0, .int .u8 0, .int .u8 0] 43)) w20.heap.size R20 = w21 at *
      have HRw21 := Lib.hid hrw21
      clear hrw21
      have HB21 := Lib.hid (HBT.out.trans ((HBw20.out.trans (HXw21.out.mono HBw20.out.size)).mono HBT.out.size))
      go_wp2_with fail
      go_ret
      exact ⟨rfl, HB21.out⟩
    | some q =>
      obtain ⟨hq1, hq2, hq3⟩ := take_may htk
      have htq := take_bytes hq1 hq2
      have HQ1 := Lib.hid hq1
      have HTK := Lib.hid (qtake_ok htk A n c wt HL.out HSL.out hc HMX.out (by omega))
      rw [HL.out] at hq3
      clear htk hq1 hq2
      obtain ⟨C, hC⟩ : ∃ C, bytesQ q = C := ⟨_, rfl⟩
      rw [hC] at htq hq3
      have HTQ := Lib.hid htq
      have HC := Lib.hid hC
      have hcn : decide ((C.length : Int) ≤ (n : Int)) = true := decide_eq_true (by omega)
      clear htq hC
      go_upto_region 14 with (first
        | (go_at_call 19; refine HTK.out.mono ?_; rintro e w20 ⟨R20, rfl, hR20, hbw20⟩; have HR20 := Lib.hid hR20.is; have HBw20 := Lib.hid hbw20; clear hR20 hbw20)
        | (refine wpList_store_row rfl 43 (.tmp 11) (.tmp 69) rfl w20.heap.size R20 rfl rfl _ _ (Wh.new _ _ _) HR20.out.info (by rw [HR20.out.size]; rfl) HR20.out.one ?_))
      obtain ⟨hww21, hbw21⟩ := box_put HR20.out zRowQ
      unfold zRowQ at hww21 hbw21
      have hrw21 := HR20.out.below hbw21
      have HXw21 := Lib.hid hbw21
      have HWw21 := Lib.hid hww21
      have HIw21 := Lib.hid HR20.out.info
      clear hww21 hbw21 HR20
      generalize World.setRow (w20.alloc (.cells #[.slice none 0 0, .slice none 0 0, .int .u64 0, .int .u64 0, .int .u64 0, .int .u64 0, .int .u64 0, .int .u64 0, .int .u64 0, .int .u64 0, .int .u64 0, .bool false, .int .u8 0, .int .u8 0, .int .u8 0, .int .u8 0, .int .u8 0, .int .u8 0, .int .u8 0, .int .u8 0, .int .u8 0, .int .u8 0, .int .u8 0, .int .u8 0, .int .u8 0, .int .u8 0, .int .u8 0, .int .u8 0] 43)) w20.heap.size R20 = w21 at *
      have HRw21 := Lib.hid hrw21
      clear hrw21
      have HB21 := Lib.hid (HBT.out.trans ((HBw20.out.trans (HXw21.out.mono HBw20.out.size)).mono HBT.out.size))
      have happ := qapp_is HRw21.out HQ1.out (HT.out.below HB21.out HT.out.lt) none 0 0 [] rfl (Sv.nil _ _ _) (Nat.zero_le _)
      rw [List.nil_append, HC.out] at happ
      have HAPP2 := Lib.hid happ
      clear happ HTK HSL
      go_upto_region 15 with (first
        | (refine wpList_load_q 43 (.tmp 11) rfl (by rfl) w20.heap.size rfl _ R20 _ HWw21.out Tryd.underlying43 rfl HIw21.out ?_)
        | (go_at_call 15; refine HAPP2.out.mono ?_; rintro e w22 ⟨A22, c22, rfl, hc22, hm22, hown22, hb22⟩))
      have HB22 := Lib.hid hb22
      have HTK2 := Lib.hid (qtake_ok HTQ.out A22 C.length c22 w22 rfl (Sv.of_own hown22) hc22 hm22 (by omega))
      clear hb22 hown22 HAPP2
      go_upto_region 16 with (first
        | (go_at_call 19; refine HTK2.out.mono ?_; rintro e w23 ⟨R23, rfl, hR23, hbw23⟩; have HR23 := Lib.hid hR23.is; have HBw23 := Lib.hid hbw23; clear hR23 hbw23)
        | (refine wpList_store_row rfl 43 (.tmp 14) (.tmp 81) rfl w23.heap.size R23 rfl rfl _ _ (Wh.new _ _ _) HR23.out.info (by rw [HR23.out.size]; rfl) HR23.out.one ?_))
      obtain ⟨hww24, hbw24⟩ := box_put HR23.out zRowQ
      unfold zRowQ at hww24 hbw24
      have hrw24 := HR23.out.below hbw24
      have HXw24 := Lib.hid hbw24
      have HWw24 := Lib.hid hww24
      have HIw24 := Lib.hid HR23.out.info
      clear hww24 hbw24 HR23
      generalize World.setRow (w23.alloc (.cells #[.slice none 0 0, .slice none 0 0, .int .u64 0, .int .u64 0, .int .u64 0, .int .u64 0, .int .u64 0, .int .u64 0, .int .u64 0, .int .u64 0, .int .u64 0, .bool false, .int .u8 0, .int .u8 0, .int .u8 0, .int .u8 0, .int .u8 0, .int .u8 0, .int .u8 0, .int .u8 0, .int .u8 0, .int .u8 0, .int .u8 0, .int .u8 0, .int .u8 0, .int .u8 0, .int .u8 0, .int .u8 0] 43)) w23.heap.size R23 = w24 at *
      have HRw24 := Lib.hid hrw24
      clear hrw24
      have hx := (HBw23.out.trans (HXw24.out.mono HBw23.out.size))
      have hy := HB22.out.trans (hx.mono HB22.out.size)
      have HW2 := Lib.hid (HWw21.out.below hy HWw21.out.lt)
      have HB24 := Lib.hid (HB21.out.trans (hy.mono HB21.out.size))
      have HSAME2 := Lib.hid (sameq_is HRw24.out (HRw21.out.below hy))
      clear hx hy HTK2 HB22 HWw21 HRw21 HRw24
      go_wp2_with (first
        | (refine wpList_load_q 43 (.tmp 14) rfl (by rfl) w23.heap.size rfl _ R23 _ HWw24.out Tryd.underlying43 rfl HIw24.out ?_)
        | (refine wpList_load_q 43 (.tmp 11) rfl (by rfl) w20.heap.size rfl _ R20 _ HW2.out Tryd.underlying43 rfl HIw21.out ?_)
        | (go_at_call 20; refine HSAME2.out.mono ?_; rintro e w25 ⟨rfl, hb25⟩))
      go_ret
      exact ⟨rfl, HB24.out.trans (hb25.mono HB24.out.size)⟩

theorem qback_any (p : PQ) (A0 : Option Addr) (c0 : Nat) (A1 : Option Addr) (c1 : Nat) (c : Nat) (A : Option Addr) (l : List UInt8) (w : World) (hT : Tab w) (ht : p.tok.length = 16)
    (h0 : Sl w w.heap.size A0 p.orig) (h1 : Sl w w.heap.size A1 p.cid) (q0 : p.orig.length ≤ 140737488351232) (q1 : p.cid.length ≤ 140737488351232) (hs : Sl w w.heap.size A l) (hc : l.length ≤ c) (hmx : c ≤ maxLen) (hn : l.length ≤ 140737488351232) :
    Calls Tryd.prog 5 #[.agg (prC A0 c0 A1 c1 p), .slice A l.length c] w fun e w' => e = .returned (.bool true) ∧ Below w.heap.size w w' := by
  by_cases hb : p.orig.length + p.cid.length + l.length ≤ 2000
  case neg => exact qback_long _ A0 c0 A1 c1 p rfl l.length c A l w hT ht h0 h1 q0 q1 rfl hs hc hmx hn (by omega)
  cases hm : mayQ p
  · exact qback_bad _ A0 c0 A1 c1 p rfl l.length c A l w hT ht h0 h1 q0 q1 rfl hs hc hmx hb hm
  · exact qback_may _ A0 c0 A1 c1 p rfl l.length c A l w hT ht h0 h1 q0 q1 rfl hs hc hmx hb hm

end Go.Proofs.YtpnpbjdkldmmdaaDoor
