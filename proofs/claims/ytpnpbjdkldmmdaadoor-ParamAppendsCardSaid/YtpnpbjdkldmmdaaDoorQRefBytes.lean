/-
  Transport parameters: the document's own bytes of all (hostlerref04.Bytes).
-/
import Derived.Test.YtpnpbjdkldmmdaaDoorQOneB
import Derived.Test.YtpnpbjdkldmmdaaDoorQRefMay
namespace Go.Proofs.YtpnpbjdkldmmdaaDoor
open Go.RowKit
set_option linter.unusedVariables false

theorem valQ_mid {p : PQ} {k : Nat} (h1 : 1 ≤ k) (h15 : k < 15) (h2 : k ≠ 2) : valQ p k = if p.num k = 0 then [] else enc (p.num k) := by
  by_cases hn : nIdx k = 0
  · rw [num_off hn]
    unfold valQ
    rw [if_neg h2, if_neg (fun e => e hn), if_neg (by omega), if_neg (by omega)]
    rfl
  · exact valQ_num h2 hn

theorem part_le {k : Nat} {v : List UInt8} (hv : v.length ≤ 20) : (partQ k v).length ≤ 40 := by
  rw [part_len]
  have h1 := szN_le k
  have h2 := szN_le v.length
  omega

set_option maxRecDepth 100000 in
set_option maxHeartbeats 3200000 in
theorem refbytesq_any (R : Array Value) (A0 : Option Addr) (c0 : Nat) (A1 : Option Addr) (c1 : Nat) (p : PQ) (hR : R = prC A0 c0 A1 c1 p) (w : World) (ht : p.tok.length = 16) (hm : mayQ p = true)
    (h0 : Sl w w.heap.size A0 p.orig) (h1 : Sl w w.heap.size A1 p.cid) :
    Calls Tryd.prog 18 #[.agg R] w (Gave w (bytesQ p) fun v => v) := by
  have hbx := BoxQ.new w R p A0 c0 A1 c1 hR ht h0 h1
  have HN := Lib.hid (fun w => numbers_any R A0 c0 A1 c1 p hR w)
  have HBX := Lib.hid hbx
  have HI := Lib.hid hbx.is.info
  have HT := Lib.hid ht
  have HM := Lib.hid hm
  have H0 := Lib.hid h0
  have H1 := Lib.hid h1
  have HR := Lib.hid hR
  obtain ⟨q0, q1⟩ := may_lens hm
  clear hbx hR ht h0 h1 hm
  go_enter Tryd.func18, Tryd.ntmps18
  go_upto_region 3 with (first
    | (refine wpList_load_q 43 (.tmp 1) rfl (by rfl) w.heap.size rfl _ R _ HBX.out.wh Tryd.underlying43 rfl HI.out ?_)
    | (go_at_call 31; refine (HN.out _).mono ?_; rintro e wb ⟨g, rfl, hg, hbb, hnum⟩))
  have HB := Lib.hid (HBX.out.below hbb)
  have HNUM := Lib.hid hnum
  have H0b := Lib.hid ((H0.out.below HB.out.bel).keep HB.out.bel.size (fun _ _ => rfl))
  have H1b := Lib.hid ((H1.out.below HB.out.bel).keep HB.out.bel.size (fun _ _ => rfl))
  have e0 := HB.out.e0
  clear hbb hnum HBX HN HI hg
  have HT1 : Hid (toldQ p 1 = if p.orig = [] then [] else partQ 0 p.orig) := by
    show _ = _
    unfold toldQ toldQ
    rw [List.nil_append]
    rfl
  go_upto_if 13 with fail
  go_cut [3] (fun v wx => Hid (OB wb wx v (toldQ p 1)))
  case first =>
    by_cases ho : p.orig.length = 0
    · have ho' : ((p.orig.length : Int)) = 0 := by omega
      have hoe := List.eq_nil_of_length_eq_zero ho
      rw [if_pos hoe] at HT1
      clear hoe ho
      go_wp2_with fail
      go_meet
      rw [HT1.out]
      exact Lib.hid (OB.start wb)
    · have hpos : 0 < p.orig.length := by omega
      rw [if_neg (fun e => by rw [e] at ho; exact ho rfl)] at HT1
      have HONE := Lib.hid (refone_any 0 p.orig A0 p.orig.length c0 wb (by omega) rfl (by omega) H0b.out)
      have hpl := part_le (k := 0) q0
      generalize partQ 0 p.orig = PT at *
      clear ho
      go_wp2_with (first
        | (go_at_call 36; refine HONE.out.mono ?_; rintro e w3 ⟨A3, c3, rfl, hc3, hm3, hown3, hb3⟩; have HO3 := Lib.hid ((OB.start wb).below hb3); have HS3 := Lib.hid (Sv.of_own hown3); clear hown3 hb3)
        | (at_builtin; refine wpList_app_ob rfl (.tmp 14) (.tmp 17) rfl _ _ rfl HO3.out A3 PT.length c3 PT rfl HS3.out rfl (by simp; omega) ?_; intro v4 w4 hO4 hg4))
      go_meet
      rw [HT1.out]
      exact Lib.hid (by simpa using hO4)
  case rest =>
    clear e0 HT1
    have HO := hcut
    clear hcut
    go_wp2_with fail
    go_loopw [3, 5] (fun v i wr => ∃ k : Nat, 1 ≤ k ∧ k ≤ 15 ∧ i = .int .i64 (k : Int) ∧ Hid (OB wb wr v (toldQ p k))) (fun _ i _ => 15 - (intOf i).toNat)
    case atStart => exact ⟨1, by omega, by omega, rfl, HO⟩
    case round =>
      clear HO
      obtain ⟨k, hk1, hk, rfl, HO⟩ := hrel
      have hmax := told_max HM.out HT.out k
      by_cases hlt : k < 15
      · have dk : decide ((k : Int) < 15) = true := decide_eq_true (by omega)
        have HTS := Lib.hid (told_succ p k)
        have hvs := val_short HM.out HT.out k
        have hnum : wr.cell? ⟨g, k, none⟩ = some (.int .u64 (p.num k : Int)) := by rw [(HNUM.out.below HO.out.bel HNUM.out.lt).cell, numC_at p k (by omega)]
        by_cases h2 : k = 2
        · have e2 : ((k : Int) == 2) = true := by rw [h2]; rfl
          have ehas : wr.cell? ⟨w.heap.size, 11, none⟩ = some (.bool p.has) := by
            have h := (HB.out.wh.below HO.out.bel HB.out.wh.lt).cell 11
            rw [HR.out, prC_has] at h
            exact h
          have hv2 : valQ p k = if p.has then p.tok else [] := by unfold valQ; rw [if_pos h2]
          rw [hv2] at HTS
          rw [show p.num k = 0 by rw [h2]; rfl] at hnum
          have HK2 := Lib.hid h2
          clear h2
          cases hh : p.has
          · rw [hh] at HTS ehas
            generalize toldQ p k = tl at *
            go_wp2_with fail
            go_roundw
            case rel => exact ⟨k + 1, by omega, by omega, by go_num, Lib.hid (by rw [HTS.out]; simpa using HO.out)⟩
            case measure => simp [intOf]; omega
          · rw [hh] at HTS ehas
            have HTS' : Hid (toldQ p (k + 1) = toldQ p k ++ partQ k p.tok) := by
              show _ = _
              rw [HTS.out, if_pos rfl, if_neg (fun e => by have := HT.out; rw [e] at this; simp at this)]
            clear HTS hv2
            generalize toldQ p k = tl at *
            go_wp2_with fail
            generalize wr = wo at *
            go_loopw [6, 7] (fun vt j wr => ∃ m : Nat, m ≤ 16 ∧ j = .int .i64 (m : Int) ∧ Hid (OB wo wr vt (p.tok.take m))) (fun _ j _ => 16 - (intOf j).toNat)
            case atStart => exact ⟨0, by omega, rfl, Lib.hid (OB.start wo)⟩
            case round =>
              obtain ⟨m, hm16, rfl, HOT⟩ := hrel
              by_cases hm : m < 16
              · obtain ⟨x, hx⟩ : ∃ x, p.tok[m]? = some x := ⟨_, List.getElem?_eq_getElem (by have := HT.out; omega)⟩
                have ec : wr.cell? ⟨w.heap.size, 12 + m, none⟩ = some (.int .u8 (x.toNat : Int)) := by
                  have h := ((HB.out.wh.below HO.out.bel HB.out.wh.lt).below HOT.out.bel (HB.out.wh.below HO.out.bel HB.out.wh.lt).lt).cell (12 + m)
                  rw [HR.out, prC_tok, hx] at h
                  exact h
                have htk : p.tok.take (m + 1) = p.tok.take m ++ [x] := by rw [List.take_add_one, hx]; rfl
                have hbl : Below wr.heap.size wr (wr.alloc (.cells #[.int .u8 (x.toNat : Int)] 5)) := (Below.refl _ _).alloc (Nat.le_refl _) _
                have HOT' := Lib.hid (HOT.out.below hbl)
                have HSX : Hid (Sl _ _ _ [x]) := Lib.hid (sl_blk (l := [x]) (Wh.new wr 5 #[.int .u8 (x.toNat : Int)]) rfl)
                have HTK := Lib.hid htk
                have hlt2 : (p.tok.take m).length ≤ 16 := by rw [List.length_take]; omega
                clear htk hbl hx
                generalize p.tok.take m = tm at *
                go_wp2_with (at_builtin; refine wpList_app_ob rfl (.tmp 47) (.tmp 52) rfl _ _ rfl HOT'.out (some ⟨wr.heap.size, 0, none⟩) 1 1 [x] rfl HSX.out rfl (by omega) ?_; intro v4 w4 hO4 hg4)
                go_roundw
                case rel => exact ⟨m + 1, by omega, by go_num, Lib.hid (by rw [HTK.out]; exact hO4)⟩
                case measure => simp [intOf]; omega
              · obtain rfl : m = 16 := by omega
                have HOT' : Hid (OB wo wr u6 p.tok) := by
                  have h := HOT.out
                  rw [List.take_of_length_le (by rw [HT.out]; omega)] at h
                  exact h
                obtain ⟨A6, c6, hv6, hc6, hm6, hs6⟩ := HOT'.out.sl
                rw [HT.out] at hv6
                subst hv6
                have hone : Calls Tryd.prog 36 #[.int .i64 2, .slice A6 16 c6] wr (Gave wr (partQ 2 p.tok) fun v => v) := refone_any 2 p.tok A6 16 c6 wr (by omega) HT.out (by omega) hs6
                have HONE := Lib.hid hone
                have HO6 := Lib.hid (HO.out.below HOT'.out.bel)
                have hpl : (partQ 2 p.tok).length ≤ 40 := part_le (by rw [HT.out]; omega)
                rw [HK2.out] at HTS'
                generalize partQ 2 p.tok = PT at *
                clear hone hs6 HOT HOT' HO ehas hnum
                go_wp2_with (first
                  | (go_at_call 36; refine HONE.out.mono ?_; rintro e w3 ⟨A3, c3, rfl, hc3, hm3, hown3, hb3⟩; have HO3 := Lib.hid (HO6.out.below hb3); have HS3 := Lib.hid (Sv.of_own hown3); clear hown3 hb3)
                  | (at_builtin; refine wpList_app_ob rfl (.tmp 54) (.tmp 56) rfl _ _ rfl HO3.out A3 PT.length c3 PT rfl HS3.out rfl (by omega) ?_; intro v4 w4 hO4 hg4))
                go_roundw
                case rel => exact ⟨k + 1, by omega, by omega, by go_num, Lib.hid (by rw [HK2.out, HTS'.out]; exact hO4)⟩
                case measure => simp [intOf]; omega
        · have e2 : ((k : Int) == 2) = false := by rw [beq_eq_false_iff_ne]; omega
          have hv := valQ_mid (p := p) hk1 hlt h2
          rw [hv] at HTS hvs
          have hnl := num_le HM.out (show k < 16 by omega)
          clear hv h2
          by_cases hn0 : p.num k = 0
          · rw [hn0] at hnum
            rw [if_pos hn0, if_pos rfl, List.append_nil] at HTS
            generalize toldQ p k = tl at *
            clear hn0 hvs
            go_wp2_with fail
            go_roundw
            case rel => exact ⟨k + 1, by omega, by omega, by go_num, Lib.hid (by rw [HTS.out]; exact HO.out)⟩
            case measure => simp [intOf]; omega
          · have hpos : (0 : Int) < (p.num k : Int) := by omega
            rw [if_neg hn0] at HTS hvs
            rw [if_neg (enc_ne hnl)] at HTS
            have HSH := Lib.hid (fun w => short_some hnl w)
            have HNE := Lib.hid (fun (w : World) (A : Option Addr) (c : Nat) (h : Sl w w.heap.size A (enc (p.num k))) => refone_any k (enc (p.num k)) A _ c w (by omega) rfl (by omega) h)
            have hpl : (partQ k (enc (p.num k))).length ≤ 40 := part_le hvs
            generalize partQ k (enc (p.num k)) = PT at *
            generalize enc (p.num k) = E at *
            generalize toldQ p k = tl at *
            generalize p.num k = N at *
            clear hn0
            go_wp2_with (first
              | (go_at_call 37; refine (HSH.out _).mono ?_; rintro e w2 ⟨A2, c2, rfl, hc2, hm2, hown2, hb2⟩; have HO2 := Lib.hid (HO.out.below hb2); have HS2 := Lib.hid (Sv.of_own hown2); clear hown2 hb2)
              | (go_at_call 36; refine (HNE.out _ _ _ HS2.out).mono ?_; rintro e w3 ⟨A3, c3, rfl, hc3, hm3, hown3, hb3⟩; have HO3 := Lib.hid (HO2.out.below hb3); have HS3 := Lib.hid (Sv.of_own hown3); clear hown3 hb3)
              | (at_builtin; refine wpList_app_ob rfl (.tmp 28) (.tmp 35) rfl _ _ rfl HO3.out A3 PT.length c3 PT rfl HS3.out rfl (by omega) ?_; intro v4 w4 hO4 hg4))
            go_roundw
            case rel => exact ⟨k + 1, by omega, by omega, by go_num, Lib.hid (by rw [HTS.out]; exact hO4)⟩
            case measure => simp [intOf]; omega
      · obtain rfl : k = 15 := by omega
        have HTS := Lib.hid (told_succ p 15)
        have hv : valQ p 15 = p.cid := rfl
        rw [hv] at HTS
        have hB2 := HB.out.below HO.out.bel
        have e1 := hB2.e1
        have HBE := Lib.hid hB2.bel
        have HS1 := Lib.hid ((H1b.out.below HO.out.bel).keep HO.out.bel.size (fun _ _ => rfl))
        have HEQ : Hid (toldQ p 16 = bytesQ p) := rfl
        generalize toldQ p 15 = tl at *
        clear hB2 hv
        by_cases hc0 : p.cid.length = 0
        · have hc0' : ((p.cid.length : Int)) = 0 := by omega
          rw [if_pos (List.eq_nil_of_length_eq_zero hc0), List.append_nil] at HTS
          clear hc0
          go_wp2_with fail
          go_ret
          rw [← HEQ.out, HTS.out]
          exact OB.gave (HO.out.lo HB.out.bel)
        · have hpos : 0 < p.cid.length := by omega
          rw [if_neg (fun e => by rw [e] at hc0; exact hc0 rfl)] at HTS
          have hone : Calls Tryd.prog 36 #[.int .i64 15, .slice A1 p.cid.length c1] wr (Gave wr (partQ 15 p.cid) fun v => v) := refone_any 15 p.cid A1 p.cid.length c1 wr (by omega) rfl (by omega) HS1.out
          have HONE := Lib.hid hone
          have hpl := part_le (k := 15) q1
          generalize partQ 15 p.cid = PT at *
          clear hc0 hone
          go_wp2_with (first
            | (go_at_call 36; refine HONE.out.mono ?_; rintro e w3 ⟨A3, c3, rfl, hc3, hm3, hown3, hb3⟩; have HO3 := Lib.hid (HO.out.below hb3); have HS3 := Lib.hid (Sv.of_own hown3); clear hown3 hb3)
            | (at_builtin; refine wpList_app_ob rfl (.tmp 62) (.tmp 65) rfl _ _ rfl HO3.out A3 PT.length c3 PT rfl HS3.out rfl (by omega) ?_; intro v4 w4 hO4 hg4))
          go_ret
          rw [← HEQ.out, HTS.out]
          exact OB.gave (hO4.lo HB.out.bel)

end Go.Proofs.YtpnpbjdkldmmdaaDoor
