/-
  hostlerref09.Times: the document's own product of two blocks. Printed by tools/gen_gctimes.py.
-/
import Derived.Test.YtblclinfcdalaaaDoorSb37
import Derived.Test.YtblclinfcdalaaaDoorSb36
namespace Go.Proofs.YtblclinfcdalaaaDoor
open Go.RowKit
set_option linter.unusedVariables false

/-- Times x in place, behind j bytes, the last one first. -/
def shK (v : List UInt8) : Nat → List UInt8
  | 0 => v
  | j + 1 => (shK v j).set (15 - j) (shG v (15 - j))
theorem shK_len (v : List UInt8) (j : Nat) : (shK v j).length = v.length := by
  induction j with
  | zero => rfl
  | succ j ih => simp [shK, ih]
theorem shK_get (v : List UInt8) (hv : v.length = 16) (j : Nat) (hj : j ≤ 16) (i : Nat) (hi : i < 16) : (shK v j).getD i 0 = if 16 - j ≤ i then shG v i else v.getD i 0 := by
  induction j with
  | zero => rw [if_neg (by omega), shK]
  | succ j ih =>
    have h := ih (by omega)
    rw [shK, List.getD_eq_getElem?_getD]
    by_cases e : 15 - j = i
    · subst e
      rw [List.getElem?_set_self (by rw [shK_len]; omega), if_pos (by omega), Option.getD_some]
    · rw [List.getElem?_set_ne e, ← List.getD_eq_getElem?_getD, h]
      by_cases h2 : 16 - j ≤ i
      · rw [if_pos h2, if_pos (by omega)]
      · rw [if_neg h2, if_neg (by omega)]
theorem shK_all (v : List UInt8) (hv : v.length = 16) : shK v 16 = shL v := by
  apply List.ext_getElem (by rw [shK_len, hv]; simp [shL])
  intro i h1 h2
  have hi : i < 16 := by rw [shK_len, hv] at h1; exact h1
  have h := shK_get v hv 16 (Nat.le_refl _) i hi
  rw [if_pos (by omega), List.getD_eq_getElem?_getD, List.getElem?_eq_getElem h1, Option.getD_some] at h
  rw [h]
  simp [shL]
theorem shK_low (v : List UInt8) (hv : v.length = 16) (j i : Nat) (hj : j ≤ 16) (h : i < 16 - j) : (shK v j).getD i 0 = v.getD i 0 := by
  rw [shK_get v hv j hj i (by omega), if_neg (by omega)]
theorem sh_byte (x y : UInt8) (c : Nat) (hc : c ≤ 1) : (x.toNat : Int) / 2 + 128 * (c : Int) = ((UInt8.ofNat (x.toNat / 2 + 128 * c)).toNat : Int) := by
  have hx := x.toNat_lt
  rw [UInt8.toNat_ofNat', Nat.mod_eq_of_lt (by omega)]
  omega
theorem sh_k0 (l : List UInt8) : (((l.getD 0 0).toNat : Int) / 2 + 0) = ((shG l 0).toNat : Int) := by
  have h := sh_byte (l.getD 0 0) 0 0 (by omega)
  unfold shG
  rw [if_pos rfl, ← h]
  rfl
theorem sh_k1 (l : List UInt8) (k : Nat) (h : 0 < k) : (((l.getD k 0).toNat : Int) / 2 + 128 * (((l.getD (k - 1) 0).toNat : Int) % 2)) = ((shG l k).toNat : Int) := by
  have h2 := sh_byte (l.getD k 0) 0 ((l.getD (k - 1) 0).toNat % 2) (by omega)
  unfold shG
  rw [if_neg (by omega), ← h2]
  omega
theorem xL_odd {v : List UInt8} (h : ((v.getD 15 0).toNat : Int) % 2 = 1) : xL v = (shL v).set 0 (shG v 0 ^^^ 225) := by unfold xL; rw [if_pos (by omega)]
theorem xL_even {v : List UInt8} (h : ¬ ((v.getD 15 0).toNat : Int) % 2 = 1) : xL v = shL v := by unfold xL; rw [if_neg (by omega)]
theorem shL_len (v : List UInt8) : (shL v).length = 16 := by simp [shL]
theorem shL_0 (v : List UInt8) : (shL v).getD 0 0 = shG v 0 := by simp [shL]
theorem oN_yes {a b : List UInt8} {n : Nat} (h : btG a n = true) : xoG (oN a b n) (vN b n) = oN a b (n + 1) := by rw [oN, if_pos h]
theorem oN_no {a b : List UInt8} {n : Nat} (h : btG a n = false) : oN a b n = oN a b (n + 1) := by rw [oN, if_neg (by rw [h]; simp)]
theorem b_xorc (x : UInt8) : bits .xor .u8 (x.toNat : Int) 225 = ((x ^^^ 225 : UInt8).toNat : Int) := by rw [show (225 : Int) = ((225 : UInt8).toNat : Int) from rfl, b_xor]

set_option maxRecDepth 100000 in
set_option maxHeartbeats 4000000 in
theorem rtimes_any (a b : List UInt8) (A B : Option Addr) (c d D : Nat) (w : World) (hD : D ≤ w.heap.size) (ha : a.length = 16) (hb : b.length = 16) (hs : Sl w D A a) (ht : Sl w D B b) :
    Calls Tryd.prog 133 #[.slice A 16 c, .slice B 16 d] w (GaveN w 16 (tmL a b)) := by
  obtain ⟨i0, hi0, hz0, hz1, hz2⟩ := info_parts info8A
  have HAL := Deep.mk ha
  have HBL := Deep.mk hb
  have HS := Lib.hid hs
  have HT := Lib.hid ht
  clear ha hb hs ht
  obtain ⟨Z, hZ⟩ : ∃ Z : List UInt8, Z = List.replicate 16 0 := ⟨_, rfl⟩
  have HZR := Deep.mk hZ
  clear hZ
  go_enter Tryd.func133, Tryd.ntmps133
  go_upto_region 2 with (first
    | (refine wpList_make_mn w rfl (.const (.int .i64 16)) (.const (.int .i64 16)) 23 rfl 5 i0 _ Tryd.underlying23 hi0 hz0 hz1 rfl .i64 .i64 16 16 16 16 rfl rfl rfl rfl (Nat.le_refl _) (by rw [hz2]; omega) (by omega) ?_; rw [zrow, ← HZR.out]))
  have hbe : Below w.heap.size w (w.alloc (.cells (aRow Z) 5)) := (Below.refl _ _).alloc (Nat.le_refl _) _
  have h1 := Wh.new w 5 (aRow Z)
  obtain ⟨ob, hob⟩ : ∃ b, b = w.heap.size := ⟨_, rfl⟩
  rw [← hob] at h1 ⊢
  have hw1 : (w.alloc (.cells (aRow Z) 5)).heap.size = ob + 1 := by rw [hob]; simp
  generalize w.alloc (.cells (aRow Z) 5) = w1 at *
  have HB1 := Lib.hid hbe
  have HO1 := Lib.hid h1
  have hD1 : D ≤ w1.heap.size := by omega
  have hsb : Sl w1 D B b := HT.out.below (hbe.mono hD)
  have hlb : (b.map cell8).length = 16 := by rw [List.length_map, HBL.out]
  have HOB : Hid (ob = w.heap.size) := Lib.hid hob
  have HW1 := Lib.hid hw1
  clear hob hbe h1 hw1
  go_upto_region 3 with (first
    | (at_builtin; refine wpList_append_sv _ rfl (.tmp 13) (.tmp 14) _ rfl w1.heap.size 5 i0 _ 1 Tryd.underlying23 hi0 hz0 hz1 hz2 rfl (.slice (some ⟨w1.heap.size, 0, none⟩) 0 0) 0 [] rfl (own_none w1 5) D B 16 d (b.map cell8) rfl (sv_alloc hsb hD1 _) hlb (cell8_one _) (by unfold maxLen; omega) (by omega) (by simp) ?_; intro vw2 w2 how2 hgw2 _; rw [Nat.zero_add, List.nil_append] at how2; have HOw2 := Lib.hid how2; have HCw2 := Lib.hid (below_clone hgw2 (Nat.le_refl _)); clear how2 hgw2))
  obtain ⟨vb, cb, rfl, hpb, hvb, hcb1, hcb2⟩ := Pb.of_own HOw2.out (by omega)
  have hov : ob < vb := by have := HW1.out; omega
  have HB2 := Lib.hid (HB1.out.trans (HCw2.out.mono HB1.out.size))
  have HO2 : Hid (Wh w2 ob 5 (aRow (oN a b 0))) := by
    have h := HO1.out.below HCw2.out HO1.out.lt
    rw [HZR.out] at h
    exact Lib.hid h
  have HV2 := Lib.hid hpb
  have hwo : w.heap.size ≤ ob := by rw [HOB.out]; exact Nat.le_refl _
  clear hpb hvb HOw2 HCw2 HB1 HO1 hsb hlb hD1 HW1 HOB
  go_wp2_with fail
  go_loopw [7, 8, 9, 10, 11] (fun i _ _ _ _ wr => ∃ n : Nat, n ≤ 128 ∧ i = .int .i64 (n : Int) ∧ Hid (Wh wr ob 5 (aRow (oN a b n))) ∧ Hid (Pb wr vb 5 (vN b n)) ∧ Hid (Below w.heap.size w wr)) (fun i _ _ _ _ _ => 128 - (intOf i).toNat)
  case atStart => exact ⟨0, by omega, rfl, HO2, HV2, HB2⟩
  case round =>
    obtain ⟨n, hn, rfl, HO, HV, HB⟩ := hrel
    clear HO2 HV2 HB2
    by_cases hlt : n < 128
    · obtain ⟨x, hx⟩ : ∃ x, x = oN a b n := ⟨_, rfl⟩
      obtain ⟨v, hv⟩ : ∃ v, v = vN b n := ⟨_, rfl⟩
      have hxl : x.length = 16 := by rw [hx]; exact oN_len HBL.out n
      have hvl : v.length = 16 := by rw [hv]; exact vN_len HBL.out n
      rw [← hx] at HO
      rw [← hv] at HV
      have hsa : Sl wr D A a := HS.out.below (HB.out.mono hD)
      have HSA := Lib.hid hsa
      have HXL := Deep.mk hxl
      have HVL := Deep.mk hvl
      have HX := Deep.mk hx
      have HV0 := Deep.mk hv
      obtain ⟨wo, rfl⟩ : ∃ wo : World, wo = wr := ⟨_, rfl⟩
      clear hx hv hxl hvl hsa
      cases hbit : btG a n
      · have HBT := Deep.mk hbit
        have hcall := rbit_any a A c n D wo HAL.out HSA.out hlt
        rw [btN_zero hbit] at hcall
        have HCALL : Hid (Calls Tryd.prog 140 #[.slice A 16 c, .int .i64 (n : Int)] wo fun e w' => e = .returned (.int .i64 0) ∧ wo = w') := Lib.hid hcall
        have HNX : Deep (x = oN a b (n + 1)) := ⟨by rw [HX.out]; exact oN_no hbit⟩
        clear hbit hcall
        go_wp2_with fail
        refine HCALL.out.mono ?_
        rintro e w3 ⟨rfl, rfl⟩
        clear HBT HCALL
        have hc15 := HV.out.cell (j := 15) (by rw [HVL.out]; omega)
        obtain ⟨x15, hx15⟩ : ∃ x, x = v.getD 15 0 := ⟨_, rfl⟩
        rw [← hx15] at hc15
        have h15 := x15.toNat_lt
        have HX15 := Deep.mk hx15
        clear hx15
        have HLT := Lib.hid hlt
        clear hlt hn
        by_cases hodd : (x15.toNat : Int) % 2 = 1
        · have hbo : ((x15.toNat : Int) % 2 == 1) = true := by simpa using hodd
          have hdo : decide ((x15.toNat : Int) % 2 = 1) = true := by rw [decide_eq_true_iff]; exact hodd
          have HXV : Deep (xL v = (shL v).set 0 (shG v 0 ^^^ 225)) := ⟨xL_odd (by rw [← HX15.out]; exact hodd)⟩
          clear hodd
          go_wp2_with fail
          clear hc15 hbo hdo
          go_loopw [10, 11] (fun kk _ wr => ∃ j : Nat, j ≤ 16 ∧ kk = .int .i64 ((15 : Int) - (j : Int)) ∧ Hid (Wh wr ob 5 (aRow x)) ∧ Hid (Pb wr vb 5 (shK v j)) ∧ Hid (Below w.heap.size w wr)) (fun kk _ _ => (intOf kk + 1).toNat)
          case atStart => exact ⟨0, by omega, rfl, HO, HV, HB⟩
          case round =>
            obtain ⟨j, hj, rfl, HO3, HV3, HB3⟩ := hrel
            clear HO HV HB
            by_cases hlj : j < 16
            · obtain ⟨i, hi⟩ : ∃ i, i = 15 - j := ⟨_, rfl⟩
              have hki : (15 : Int) - (j : Int) = (i : Int) := by omega
              rw [hki]
              obtain ⟨u, hu⟩ : ∃ u, u = shK v j := ⟨_, rfl⟩
              have hul : u.length = 16 := by rw [hu, shK_len, HVL.out]
              have hui : u.getD i 0 = v.getD i 0 := by rw [hu]; exact shK_low v HVL.out j i hj (by omega)
              have hup : u.getD (i - 1) 0 = v.getD (i - 1) 0 := by rw [hu]; exact shK_low v HVL.out j (i - 1) hj (by omega)
              rw [← hu] at HV3
              have hci := HV3.out.cell (j := i) (by omega)
              have hcp := HV3.out.cell (j := i - 1) (by omega)
              have hfi := HV3.out.frozen i
              rw [hui] at hci
              rw [hup] at hcp
              have hi16 : i < 16 := by omega
              have hi15 : (i : Int) < 16 := by omega
              have hi0 : (0 : Int) ≤ (i : Int) := by omega
              have hii : decide ((i : Int) ≥ 0) = true := by rw [decide_eq_true_iff]; omega
              have HNX3 : Deep (u.set i (shG v i) = shK v (j + 1)) := ⟨by rw [hu, hi]; rfl⟩
              have HJ1 : Deep ((i : Int) - 1 = (15 : Int) - ((j + 1 : Nat) : Int)) := ⟨by omega⟩
              have HJ2 : Hid (j + 1 ≤ 16) := Lib.hid (by omega)
              have HUL := Deep.mk hul
              have hpv := HV3.out.put i (shG v i)
              have hgv := grown_set wr vb i (.int .u8 ((shG v i).toNat : Int))
              have HPV := Lib.hid hpv
              have HGV := Lib.hid hgv
              clear hu hui hup hul hpv hgv hi hki hlj hj
              by_cases hpos : 0 < i
              · obtain ⟨p, hp⟩ : ∃ p, p = i - 1 := ⟨_, rfl⟩
                rw [← hp] at hcp
                have hpi : (i : Int) - 1 = (p : Int) := by omega
                have hp16 : (p : Int) < 16 := by omega
                have hdp : decide ((i : Int) > 0) = true := by rw [decide_eq_true_iff]; omega
                have hdp2 : decide (0 < i) = true := decide_eq_true hpos
                have hval := sh_k1 v i hpos
                rw [← hp] at hval
                obtain ⟨zi, hzi⟩ : ∃ z, z = v.getD i 0 := ⟨_, rfl⟩
                obtain ⟨zp, hzp⟩ : ∃ z, z = v.getD p 0 := ⟨_, rfl⟩
                rw [← hzi] at hci hval
                rw [← hzp] at hcp hval
                have hzi8 := zi.toNat_lt
                have hzp8 := zp.toNat_lt
                have HVAL := Deep.mk hval
                have HPI := Deep.mk hpi
                clear hp hzi hzp hval hpos
                go_wp2_with fail
                clear hcp hci hfi
                rw [HVAL.out]
                refine ⟨⟨j + 1, HJ2.out, by rw [← HJ1.out, HPI.out], ?_, ?_, ?_⟩, by simp [intOf]; omega⟩
                · exact Lib.hid (HO3.out.grown HGV.out (by intro e; have := Option.some.inj e; omega))
                · rw [← HNX3.out]; exact HPV
                · exact Lib.hid (HB3.out.grown HGV.out HB3.out.size (fun q hq => by have := Option.some.inj hq; omega))
              · have hiz : i = 0 := by omega
                have hdp : decide ((i : Int) > 0) = false := by rw [decide_eq_false_iff_not]; omega
                have hdp2 : decide (0 < i) = false := decide_eq_false hpos
                have hval := sh_k0 v
                rw [← hiz] at hval
                obtain ⟨zi, hzi⟩ : ∃ z, z = v.getD i 0 := ⟨_, rfl⟩
                rw [← hzi] at hci hval
                have hzi8 := zi.toNat_lt
                have HIZ := Deep.mk hiz
                rw [Int.add_zero] at hval
                have HVAL := Deep.mk hval
                clear hzi hval hpos hcp hiz
                go_wp2_with fail
                clear hci hfi
                rw [HVAL.out]
                refine ⟨⟨j + 1, HJ2.out, by rw [← HJ1.out], ?_, ?_, ?_⟩, by first | (simp [intOf]; done) | (simp [intOf]; omega)⟩
                · exact Lib.hid (HO3.out.grown HGV.out (by intro e; have := Option.some.inj e; omega))
                · rw [← HNX3.out]; exact HPV
                · exact Lib.hid (HB3.out.grown HGV.out HB3.out.size (fun q hq => by have := Option.some.inj hq; omega))
            · have hj16 : j = 16 := by omega
              obtain ⟨t, ht⟩ : ∃ t, t = (15 : Int) - (j : Int) := ⟨_, rfl⟩
              rw [← ht]
              have htd : decide (t ≥ 0) = false := by rw [decide_eq_false_iff_not]; omega
              have htn : ¬ (0 ≤ t) := by omega
              have HVS : Hid (Pb wr vb 5 (shL v)) := by
                have h := HV3.out
                rw [hj16, shK_all v HVL.out] at h
                exact Lib.hid h
              clear HV3 ht hj hlj hj16
              have hs0 := HVS.out.cell (j := 0) (by rw [shL_len]; omega)
              have hf0 := HVS.out.frozen 0
              rw [shL_0] at hs0
              obtain ⟨z0, hz0'⟩ : ∃ z, z = shG v 0 := ⟨_, rfl⟩
              rw [← hz0'] at hs0
              have HZ0 := Deep.mk hz0'
              have hz8 := z0.toNat_lt
              clear hz0'
              go_wp2_with fail
              clear hs0 hf0
              rw [b_xorc]
              have hpv := HVS.out.put 0 (z0 ^^^ 225)
              have hgv := grown_set wr vb 0 (.int .u8 ((z0 ^^^ 225 : UInt8).toNat : Int))
              refine ⟨⟨n + 1, by have := HLT.out; omega, by go_num, ?_, ?_, ?_⟩, by have := HLT.out; simp [intOf]; omega⟩
              · rw [← HNX.out]; exact Lib.hid (HO3.out.grown hgv (by intro e; have := Option.some.inj e; omega))
              · rw [vN, ← HV0.out, HXV.out, ← HZ0.out]; exact Lib.hid hpv
              · exact Lib.hid (HB3.out.grown hgv HB3.out.size (fun q hq => by have := Option.some.inj hq; omega))
        · have hbo : ((x15.toNat : Int) % 2 == 1) = false := by simpa using hodd
          have hdo : decide ((x15.toNat : Int) % 2 = 1) = false := by rw [decide_eq_false_iff_not]; exact hodd
          have HXV : Deep (xL v = shL v) := ⟨xL_even (by rw [← HX15.out]; exact hodd)⟩
          clear hodd
          go_wp2_with fail
          clear hc15 hbo hdo
          go_loopw [10, 11] (fun kk _ wr => ∃ j : Nat, j ≤ 16 ∧ kk = .int .i64 ((15 : Int) - (j : Int)) ∧ Hid (Wh wr ob 5 (aRow x)) ∧ Hid (Pb wr vb 5 (shK v j)) ∧ Hid (Below w.heap.size w wr)) (fun kk _ _ => (intOf kk + 1).toNat)
          case atStart => exact ⟨0, by omega, rfl, HO, HV, HB⟩
          case round =>
            obtain ⟨j, hj, rfl, HO3, HV3, HB3⟩ := hrel
            clear HO HV HB
            by_cases hlj : j < 16
            · obtain ⟨i, hi⟩ : ∃ i, i = 15 - j := ⟨_, rfl⟩
              have hki : (15 : Int) - (j : Int) = (i : Int) := by omega
              rw [hki]
              obtain ⟨u, hu⟩ : ∃ u, u = shK v j := ⟨_, rfl⟩
              have hul : u.length = 16 := by rw [hu, shK_len, HVL.out]
              have hui : u.getD i 0 = v.getD i 0 := by rw [hu]; exact shK_low v HVL.out j i hj (by omega)
              have hup : u.getD (i - 1) 0 = v.getD (i - 1) 0 := by rw [hu]; exact shK_low v HVL.out j (i - 1) hj (by omega)
              rw [← hu] at HV3
              have hci := HV3.out.cell (j := i) (by omega)
              have hcp := HV3.out.cell (j := i - 1) (by omega)
              have hfi := HV3.out.frozen i
              rw [hui] at hci
              rw [hup] at hcp
              have hi16 : i < 16 := by omega
              have hi15 : (i : Int) < 16 := by omega
              have hi0 : (0 : Int) ≤ (i : Int) := by omega
              have hii : decide ((i : Int) ≥ 0) = true := by rw [decide_eq_true_iff]; omega
              have HNX3 : Deep (u.set i (shG v i) = shK v (j + 1)) := ⟨by rw [hu, hi]; rfl⟩
              have HJ1 : Deep ((i : Int) - 1 = (15 : Int) - ((j + 1 : Nat) : Int)) := ⟨by omega⟩
              have HJ2 : Hid (j + 1 ≤ 16) := Lib.hid (by omega)
              have HUL := Deep.mk hul
              have hpv := HV3.out.put i (shG v i)
              have hgv := grown_set wr vb i (.int .u8 ((shG v i).toNat : Int))
              have HPV := Lib.hid hpv
              have HGV := Lib.hid hgv
              clear hu hui hup hul hpv hgv hi hki hlj hj
              by_cases hpos : 0 < i
              · obtain ⟨p, hp⟩ : ∃ p, p = i - 1 := ⟨_, rfl⟩
                rw [← hp] at hcp
                have hpi : (i : Int) - 1 = (p : Int) := by omega
                have hp16 : (p : Int) < 16 := by omega
                have hdp : decide ((i : Int) > 0) = true := by rw [decide_eq_true_iff]; omega
                have hdp2 : decide (0 < i) = true := decide_eq_true hpos
                have hval := sh_k1 v i hpos
                rw [← hp] at hval
                obtain ⟨zi, hzi⟩ : ∃ z, z = v.getD i 0 := ⟨_, rfl⟩
                obtain ⟨zp, hzp⟩ : ∃ z, z = v.getD p 0 := ⟨_, rfl⟩
                rw [← hzi] at hci hval
                rw [← hzp] at hcp hval
                have hzi8 := zi.toNat_lt
                have hzp8 := zp.toNat_lt
                have HVAL := Deep.mk hval
                have HPI := Deep.mk hpi
                clear hp hzi hzp hval hpos
                go_wp2_with fail
                clear hcp hci hfi
                rw [HVAL.out]
                refine ⟨⟨j + 1, HJ2.out, by rw [← HJ1.out, HPI.out], ?_, ?_, ?_⟩, by simp [intOf]; omega⟩
                · exact Lib.hid (HO3.out.grown HGV.out (by intro e; have := Option.some.inj e; omega))
                · rw [← HNX3.out]; exact HPV
                · exact Lib.hid (HB3.out.grown HGV.out HB3.out.size (fun q hq => by have := Option.some.inj hq; omega))
              · have hiz : i = 0 := by omega
                have hdp : decide ((i : Int) > 0) = false := by rw [decide_eq_false_iff_not]; omega
                have hdp2 : decide (0 < i) = false := decide_eq_false hpos
                have hval := sh_k0 v
                rw [← hiz] at hval
                obtain ⟨zi, hzi⟩ : ∃ z, z = v.getD i 0 := ⟨_, rfl⟩
                rw [← hzi] at hci hval
                have hzi8 := zi.toNat_lt
                have HIZ := Deep.mk hiz
                rw [Int.add_zero] at hval
                have HVAL := Deep.mk hval
                clear hzi hval hpos hcp hiz
                go_wp2_with fail
                clear hci hfi
                rw [HVAL.out]
                refine ⟨⟨j + 1, HJ2.out, by rw [← HJ1.out], ?_, ?_, ?_⟩, by first | (simp [intOf]; done) | (simp [intOf]; omega)⟩
                · exact Lib.hid (HO3.out.grown HGV.out (by intro e; have := Option.some.inj e; omega))
                · rw [← HNX3.out]; exact HPV
                · exact Lib.hid (HB3.out.grown HGV.out HB3.out.size (fun q hq => by have := Option.some.inj hq; omega))
            · have hj16 : j = 16 := by omega
              obtain ⟨t, ht⟩ : ∃ t, t = (15 : Int) - (j : Int) := ⟨_, rfl⟩
              rw [← ht]
              have htd : decide (t ≥ 0) = false := by rw [decide_eq_false_iff_not]; omega
              have htn : ¬ (0 ≤ t) := by omega
              have HVS : Hid (Pb wr vb 5 (shL v)) := by
                have h := HV3.out
                rw [hj16, shK_all v HVL.out] at h
                exact Lib.hid h
              clear HV3 ht hj hlj hj16
              go_wp2_with fail
              refine ⟨⟨n + 1, by have := HLT.out; omega, by go_num, ?_, ?_, HB3⟩, by have := HLT.out; simp [intOf]; omega⟩
              · rw [← HNX.out]; exact HO3
              · rw [vN, ← HV0.out, HXV.out]; exact HVS
      · have HBT := Deep.mk hbit
        have hcall := rbit_any a A c n D wo HAL.out HSA.out hlt
        rw [btN_one hbit] at hcall
        have HCALL : Hid (Calls Tryd.prog 140 #[.slice A 16 c, .int .i64 (n : Int)] wo fun e w' => e = .returned (.int .i64 1) ∧ wo = w') := Lib.hid hcall
        obtain ⟨x', hx'⟩ : ∃ x', x' = xoG x v := ⟨_, rfl⟩
        have HNX : Deep (x' = oN a b (n + 1)) := ⟨by rw [hx', HX.out, HV0.out]; exact oN_yes hbit⟩
        have HXJ : Deep (jnN x v 16 = x') := ⟨by rw [hx', ← HXL.out]; exact jn_all x v (by rw [HXL.out, HVL.out])⟩
        clear hbit hcall hx'
        go_wp2_with fail
        refine HCALL.out.mono ?_
        rintro e w3 ⟨rfl, rfl⟩
        clear HBT HCALL
        go_wp2_with fail
        go_loopw [8] (fun kk wr => ∃ j : Nat, j ≤ 16 ∧ kk = .int .i64 (j : Int) ∧ Hid (Wh wr ob 5 (aRow (jnN x v j))) ∧ Hid (Pb wr vb 5 v) ∧ Hid (Below w.heap.size w wr)) (fun kk _ => 16 - (intOf kk).toNat)
        case atStart => exact ⟨0, by omega, rfl, HO, HV, HB⟩
        case round =>
          obtain ⟨j, hj, rfl, HO4, HV4, HB4⟩ := hrel
          clear HO HV HB
          by_cases hlj : j < 16
          · obtain ⟨u, hu⟩ : ∃ u, u = jnN x v j := ⟨_, rfl⟩
            have hul : u.length = 16 := by rw [hu, jnN_len, HXL.out]
            rw [← hu] at HO4
            have hcu := (HO4.out.cell j).trans (aRow_at (by omega))
            have hfu := HO4.out.frozen j
            obtain ⟨p, hp⟩ : ∃ p, p = u.getD j 0 := ⟨_, rfl⟩
            obtain ⟨q, hq⟩ : ∃ q, q = v.getD j 0 := ⟨_, rfl⟩
            rw [← hp] at hcu
            obtain ⟨z, hz⟩ : ∃ z, z = p ^^^ q := ⟨_, rfl⟩
            have HNJ : Deep (u.set j z = jnN x v (j + 1)) := ⟨by rw [hz, hp, hq, hu]; rfl⟩
            have HZZ := Deep.mk hz
            have hjd : decide ((j : Int) < 16) = true := by rw [decide_eq_true_iff]; omega
            have hji : (j : Int) < 16 := by omega
            have HVC : Hid (∀ w', Pb w' vb 5 v → w'.cell? ⟨vb, j, none⟩ = some (.int .u8 (q.toNat : Int))) := Lib.hid (fun w' h => by rw [hq]; exact h.cell (by rw [HVL.out]; exact hlj))
            have hput := HO4.out.put j (.int .u8 (z.toNat : Int))
            rw [aRow_set] at hput
            have hgs := grown_trans (grown_below (row := some ob) ((Below.refl _ wr).drew)) (grown_set wr.drew ob j (.int .u8 (z.toNat : Int)))
            have HPU : Hid (Wh (wr.drew.setCell ⟨ob, j, none⟩ (.int .u8 (z.toNat : Int))) ob 5 (aRow (u.set j z))) := Lib.hid hput
            have HGS := Lib.hid hgs
            have hcd : wr.drew.cell? ⟨ob, j, none⟩ = some (.int .u8 (p.toNat : Int)) := hcu
            have hfd : wr.drew.frozen? ⟨ob, j, none⟩ = false := hfu
            have hG : Pb wr.drew vb 5 v := HV4.out
            clear hu hul hcu hfu hp hq hz hput hgs
            go_wp2_with fail
            refine wp_region_held_drew (S := fun w' => Pb w' vb 5 v) (by kernel_rfl) hG (fun _ => ?_)
            refine wpAnyH_take (i := 0) (v := .slice (some ⟨ob, 0, none⟩) 16 16) (List.getElem?_toArray.trans rfl) (by kernel_rfl) (by kernel_rfl) (by kernel_rfl) (fun _ _ _ h => h) (.inl ⟨rfl, fun w' hS => rfl⟩) hG ?_
            refine act_normM (by simp only [Act.put, List.setIfInBounds_toArray, List.set_cons_zero, List.set_cons_succ]; rfl) ?_
            refine wpAnyH_take (i := 1) (v := .int .i64 (j : Int)) (List.getElem?_toArray.trans rfl) (by kernel_rfl) (by kernel_rfl) (by kernel_rfl) (fun _ _ _ h => h) (.inl ⟨rfl, fun w' hS => rfl⟩) hG ?_
            refine act_normM (by simp only [Act.put, List.setIfInBounds_toArray, List.set_cons_zero, List.set_cons_succ]; rfl) ?_
            refine wpAnyH_take (i := 2) (v := .slice (some ⟨ob, 0, none⟩) 16 16) (List.getElem?_toArray.trans rfl) (by kernel_rfl) (by kernel_rfl) (by kernel_rfl) (fun _ _ _ h => h) (.inl ⟨rfl, fun w' hS => rfl⟩) hG ?_
            refine act_normM (by simp only [Act.put, List.setIfInBounds_toArray, List.set_cons_zero, List.set_cons_succ]; rfl) ?_
            refine wpAnyH_take (i := 3) (v := .int .i64 (j : Int)) (List.getElem?_toArray.trans rfl) (by kernel_rfl) (by kernel_rfl) (by kernel_rfl) (fun _ _ _ h => h) (.inl ⟨rfl, fun w' hS => rfl⟩) hG ?_
            refine act_normM (by simp only [Act.put, List.setIfInBounds_toArray, List.set_cons_zero, List.set_cons_succ]; rfl) ?_
            refine wpAnyH_take (i := 4) (v := .pointer (some ⟨ob, j, none⟩)) (List.getElem?_toArray.trans rfl) (by kernel_rfl) (by kernel_rfl) (by kernel_rfl) (fun _ _ _ h => h) (.inl ⟨rfl, fun w' hS => by simp [go_sem, hji]⟩) hG ?_
            refine act_normM (by simp only [Act.put, List.setIfInBounds_toArray, List.set_cons_zero, List.set_cons_succ]; rfl) ?_
            refine wpAnyH_take (i := 6) (v := .slice (some ⟨vb, 0, none⟩) 16 cb) (List.getElem?_toArray.trans rfl) (by kernel_rfl) (by kernel_rfl) (by kernel_rfl) (fun _ _ _ h => h) (.inl ⟨rfl, fun w' hS => rfl⟩) hG ?_
            refine act_normM (by simp only [Act.put, List.setIfInBounds_toArray, List.set_cons_zero, List.set_cons_succ]; rfl) ?_
            refine wpAnyH_take (i := 7) (v := .int .i64 (j : Int)) (List.getElem?_toArray.trans rfl) (by kernel_rfl) (by kernel_rfl) (by kernel_rfl) (fun _ _ _ h => h) (.inl ⟨rfl, fun w' hS => rfl⟩) hG ?_
            refine act_normM (by simp only [Act.put, List.setIfInBounds_toArray, List.set_cons_zero, List.set_cons_succ]; rfl) ?_
            refine wpAnyH_take (i := 8) (v := .pointer (some ⟨vb, j, none⟩)) (List.getElem?_toArray.trans rfl) (by kernel_rfl) (by kernel_rfl) (by kernel_rfl) (fun _ _ _ h => h) (.inl ⟨rfl, fun w' hS => by simp [go_sem, hji]⟩) hG ?_
            refine act_normM (by simp only [Act.put, List.setIfInBounds_toArray, List.set_cons_zero, List.set_cons_succ]; rfl) ?_
            refine wpAnyH_take (i := 9) (v := .int .u8 (q.toNat : Int)) (List.getElem?_toArray.trans rfl) (by kernel_rfl) (by kernel_rfl) (by kernel_rfl) (fun _ _ _ h => h) (.inl ⟨rfl, fun w' hS => by have hc := HVC.out w' hS; simp [go_sem, hc]⟩) hG ?_
            refine act_normM (by simp only [Act.put, List.setIfInBounds_toArray, List.set_cons_zero, List.set_cons_succ]; rfl) ?_
            refine wpAnyH_ready (rs := [5]) (by kernel_rfl) (by simp) (AllReadyH.cons (List.getElem?_toArray.trans rfl) (fun K' hK => ?_) AllReadyH.nil)
            refine wanted_goM rfl ?_
            go_simp
            refine hK.out _ _ hG (fun _ => ?_)
            clear hK K'
            refine wpAnyH_take (i := 10) (v := .int .u8 (z.toNat : Int)) (List.getElem?_toArray.trans rfl) (by kernel_rfl) (by kernel_rfl) (by kernel_rfl) (fun _ _ _ h => h) (.inl ⟨rfl, fun w' hS => by rw [HZZ.out, ← b_xor]; simp [go_sem]⟩) hG ?_
            refine act_normM (by simp only [Act.put, List.setIfInBounds_toArray, List.set_cons_zero, List.set_cons_succ]; rfl) ?_
            refine wpAnyH_take (i := 11) (v := .pointer (some ⟨ob, j, none⟩)) (List.getElem?_toArray.trans rfl) (by kernel_rfl) (by kernel_rfl) (by kernel_rfl) (fun _ _ _ h => h) (.inl ⟨rfl, fun w' hS => by simp [go_sem, hji]⟩) hG ?_
            refine act_normM (by simp only [Act.put, List.setIfInBounds_toArray, List.set_cons_zero, List.set_cons_succ]; rfl) ?_
            have hG2 : Pb (wr.drew.setCell ⟨ob, j, none⟩ (.int .u8 (z.toNat : Int))) vb 5 v := HV4.out.grown HGS.out (by intro e; have := Option.some.inj e; omega)
            refine wpAnyH_ready (rs := [12]) (by kernel_rfl) (by simp) (AllReadyH.cons (List.getElem?_toArray.trans rfl) (fun K' hK => ?_) AllReadyH.nil)
            refine wanted_goM rfl ?_
            go_simp
            refine hK.out _ _ hG2 (fun _ => ?_)
            clear hK K'
            refine wpAnyH_done (by kernel_rfl) ?_ _
            have HV5 := Lib.hid hG2
            clear hcd hfd hjd hji hG hG2
            change Exit.inBlock 3 _ _ _ (wr.drew.setCell ⟨ob, j, none⟩ (.int .u8 (z.toNat : Int)))
            generalize wr.drew.setCell ⟨ob, j, none⟩ (.int .u8 (z.toNat : Int)) = w5 at *
            go_wp2
            refine ⟨⟨j + 1, by omega, by go_num, ?_, HV5, ?_⟩, by simp [intOf]; omega⟩
            · rw [← HNJ.out]; exact HPU
            · exact Lib.hid (HB4.out.grown HGS.out HB4.out.size (fun q hq => by have := Option.some.inj hq; omega))
          · have hjd : decide ((j : Int) < 16) = false := by rw [decide_eq_false_iff_not]; omega
            have hj16 : j = 16 := by omega
            have HO : Hid (Wh wr ob 5 (aRow x')) := by
              have h := HO4.out
              rw [hj16, HXJ.out] at h
              exact Lib.hid h
            have HV := HV4
            have HB := HB4
            clear HO4 HV4 HB4 hlj hj hj16 HXJ
            obtain ⟨wo2, rfl⟩ : ∃ wo2 : World, wo2 = wr := ⟨_, rfl⟩
            have hc15 := HV.out.cell (j := 15) (by rw [HVL.out]; omega)
            obtain ⟨x15, hx15⟩ : ∃ x, x = v.getD 15 0 := ⟨_, rfl⟩
            rw [← hx15] at hc15
            have h15 := x15.toNat_lt
            have HX15 := Deep.mk hx15
            clear hx15
            have HLT := Lib.hid hlt
            clear hlt hn
            by_cases hodd : (x15.toNat : Int) % 2 = 1
            · have hbo : ((x15.toNat : Int) % 2 == 1) = true := by simpa using hodd
              have hdo : decide ((x15.toNat : Int) % 2 = 1) = true := by rw [decide_eq_true_iff]; exact hodd
              have HXV : Deep (xL v = (shL v).set 0 (shG v 0 ^^^ 225)) := ⟨xL_odd (by rw [← HX15.out]; exact hodd)⟩
              clear hodd
              go_wp2_with fail
              clear hc15 hbo hdo
              go_loopw [10, 11] (fun kk _ wr => ∃ j : Nat, j ≤ 16 ∧ kk = .int .i64 ((15 : Int) - (j : Int)) ∧ Hid (Wh wr ob 5 (aRow x')) ∧ Hid (Pb wr vb 5 (shK v j)) ∧ Hid (Below w.heap.size w wr)) (fun kk _ _ => (intOf kk + 1).toNat)
              case atStart => exact ⟨0, by omega, rfl, HO, HV, HB⟩
              case round =>
                obtain ⟨j, hj, rfl, HO3, HV3, HB3⟩ := hrel
                clear HO HV HB
                by_cases hlj : j < 16
                · obtain ⟨i, hi⟩ : ∃ i, i = 15 - j := ⟨_, rfl⟩
                  have hki : (15 : Int) - (j : Int) = (i : Int) := by omega
                  rw [hki]
                  obtain ⟨u, hu⟩ : ∃ u, u = shK v j := ⟨_, rfl⟩
                  have hul : u.length = 16 := by rw [hu, shK_len, HVL.out]
                  have hui : u.getD i 0 = v.getD i 0 := by rw [hu]; exact shK_low v HVL.out j i hj (by omega)
                  have hup : u.getD (i - 1) 0 = v.getD (i - 1) 0 := by rw [hu]; exact shK_low v HVL.out j (i - 1) hj (by omega)
                  rw [← hu] at HV3
                  have hci := HV3.out.cell (j := i) (by omega)
                  have hcp := HV3.out.cell (j := i - 1) (by omega)
                  have hfi := HV3.out.frozen i
                  rw [hui] at hci
                  rw [hup] at hcp
                  have hi16 : i < 16 := by omega
                  have hi15 : (i : Int) < 16 := by omega
                  have hi0 : (0 : Int) ≤ (i : Int) := by omega
                  have hii : decide ((i : Int) ≥ 0) = true := by rw [decide_eq_true_iff]; omega
                  have HNX3 : Deep (u.set i (shG v i) = shK v (j + 1)) := ⟨by rw [hu, hi]; rfl⟩
                  have HJ1 : Deep ((i : Int) - 1 = (15 : Int) - ((j + 1 : Nat) : Int)) := ⟨by omega⟩
                  have HJ2 : Hid (j + 1 ≤ 16) := Lib.hid (by omega)
                  have HUL := Deep.mk hul
                  have hpv := HV3.out.put i (shG v i)
                  have hgv := grown_set wr vb i (.int .u8 ((shG v i).toNat : Int))
                  have HPV := Lib.hid hpv
                  have HGV := Lib.hid hgv
                  clear hu hui hup hul hpv hgv hi hki hlj hj
                  by_cases hpos : 0 < i
                  · obtain ⟨p, hp⟩ : ∃ p, p = i - 1 := ⟨_, rfl⟩
                    rw [← hp] at hcp
                    have hpi : (i : Int) - 1 = (p : Int) := by omega
                    have hp16 : (p : Int) < 16 := by omega
                    have hdp : decide ((i : Int) > 0) = true := by rw [decide_eq_true_iff]; omega
                    have hdp2 : decide (0 < i) = true := decide_eq_true hpos
                    have hval := sh_k1 v i hpos
                    rw [← hp] at hval
                    obtain ⟨zi, hzi⟩ : ∃ z, z = v.getD i 0 := ⟨_, rfl⟩
                    obtain ⟨zp, hzp⟩ : ∃ z, z = v.getD p 0 := ⟨_, rfl⟩
                    rw [← hzi] at hci hval
                    rw [← hzp] at hcp hval
                    have hzi8 := zi.toNat_lt
                    have hzp8 := zp.toNat_lt
                    have HVAL := Deep.mk hval
                    have HPI := Deep.mk hpi
                    clear hp hzi hzp hval hpos
                    go_wp2_with fail
                    clear hcp hci hfi
                    rw [HVAL.out]
                    refine ⟨⟨j + 1, HJ2.out, by rw [← HJ1.out, HPI.out], ?_, ?_, ?_⟩, by simp [intOf]; omega⟩
                    · exact Lib.hid (HO3.out.grown HGV.out (by intro e; have := Option.some.inj e; omega))
                    · rw [← HNX3.out]; exact HPV
                    · exact Lib.hid (HB3.out.grown HGV.out HB3.out.size (fun q hq => by have := Option.some.inj hq; omega))
                  · have hiz : i = 0 := by omega
                    have hdp : decide ((i : Int) > 0) = false := by rw [decide_eq_false_iff_not]; omega
                    have hdp2 : decide (0 < i) = false := decide_eq_false hpos
                    have hval := sh_k0 v
                    rw [← hiz] at hval
                    obtain ⟨zi, hzi⟩ : ∃ z, z = v.getD i 0 := ⟨_, rfl⟩
                    rw [← hzi] at hci hval
                    have hzi8 := zi.toNat_lt
                    have HIZ := Deep.mk hiz
                    rw [Int.add_zero] at hval
                    have HVAL := Deep.mk hval
                    clear hzi hval hpos hcp hiz
                    go_wp2_with fail
                    clear hci hfi
                    rw [HVAL.out]
                    refine ⟨⟨j + 1, HJ2.out, by rw [← HJ1.out], ?_, ?_, ?_⟩, by first | (simp [intOf]; done) | (simp [intOf]; omega)⟩
                    · exact Lib.hid (HO3.out.grown HGV.out (by intro e; have := Option.some.inj e; omega))
                    · rw [← HNX3.out]; exact HPV
                    · exact Lib.hid (HB3.out.grown HGV.out HB3.out.size (fun q hq => by have := Option.some.inj hq; omega))
                · have hj16 : j = 16 := by omega
                  obtain ⟨t, ht⟩ : ∃ t, t = (15 : Int) - (j : Int) := ⟨_, rfl⟩
                  rw [← ht]
                  have htd : decide (t ≥ 0) = false := by rw [decide_eq_false_iff_not]; omega
                  have htn : ¬ (0 ≤ t) := by omega
                  have HVS : Hid (Pb wr vb 5 (shL v)) := by
                    have h := HV3.out
                    rw [hj16, shK_all v HVL.out] at h
                    exact Lib.hid h
                  clear HV3 ht hj hlj hj16
                  have hs0 := HVS.out.cell (j := 0) (by rw [shL_len]; omega)
                  have hf0 := HVS.out.frozen 0
                  rw [shL_0] at hs0
                  obtain ⟨z0, hz0'⟩ : ∃ z, z = shG v 0 := ⟨_, rfl⟩
                  rw [← hz0'] at hs0
                  have HZ0 := Deep.mk hz0'
                  have hz8 := z0.toNat_lt
                  clear hz0'
                  go_wp2_with fail
                  clear hs0 hf0
                  rw [b_xorc]
                  have hpv := HVS.out.put 0 (z0 ^^^ 225)
                  have hgv := grown_set wr vb 0 (.int .u8 ((z0 ^^^ 225 : UInt8).toNat : Int))
                  refine ⟨⟨n + 1, by have := HLT.out; omega, by go_num, ?_, ?_, ?_⟩, by have := HLT.out; simp [intOf]; omega⟩
                  · rw [← HNX.out]; exact Lib.hid (HO3.out.grown hgv (by intro e; have := Option.some.inj e; omega))
                  · rw [vN, ← HV0.out, HXV.out, ← HZ0.out]; exact Lib.hid hpv
                  · exact Lib.hid (HB3.out.grown hgv HB3.out.size (fun q hq => by have := Option.some.inj hq; omega))
            · have hbo : ((x15.toNat : Int) % 2 == 1) = false := by simpa using hodd
              have hdo : decide ((x15.toNat : Int) % 2 = 1) = false := by rw [decide_eq_false_iff_not]; exact hodd
              have HXV : Deep (xL v = shL v) := ⟨xL_even (by rw [← HX15.out]; exact hodd)⟩
              clear hodd
              go_wp2_with fail
              clear hc15 hbo hdo
              go_loopw [10, 11] (fun kk _ wr => ∃ j : Nat, j ≤ 16 ∧ kk = .int .i64 ((15 : Int) - (j : Int)) ∧ Hid (Wh wr ob 5 (aRow x')) ∧ Hid (Pb wr vb 5 (shK v j)) ∧ Hid (Below w.heap.size w wr)) (fun kk _ _ => (intOf kk + 1).toNat)
              case atStart => exact ⟨0, by omega, rfl, HO, HV, HB⟩
              case round =>
                obtain ⟨j, hj, rfl, HO3, HV3, HB3⟩ := hrel
                clear HO HV HB
                by_cases hlj : j < 16
                · obtain ⟨i, hi⟩ : ∃ i, i = 15 - j := ⟨_, rfl⟩
                  have hki : (15 : Int) - (j : Int) = (i : Int) := by omega
                  rw [hki]
                  obtain ⟨u, hu⟩ : ∃ u, u = shK v j := ⟨_, rfl⟩
                  have hul : u.length = 16 := by rw [hu, shK_len, HVL.out]
                  have hui : u.getD i 0 = v.getD i 0 := by rw [hu]; exact shK_low v HVL.out j i hj (by omega)
                  have hup : u.getD (i - 1) 0 = v.getD (i - 1) 0 := by rw [hu]; exact shK_low v HVL.out j (i - 1) hj (by omega)
                  rw [← hu] at HV3
                  have hci := HV3.out.cell (j := i) (by omega)
                  have hcp := HV3.out.cell (j := i - 1) (by omega)
                  have hfi := HV3.out.frozen i
                  rw [hui] at hci
                  rw [hup] at hcp
                  have hi16 : i < 16 := by omega
                  have hi15 : (i : Int) < 16 := by omega
                  have hi0 : (0 : Int) ≤ (i : Int) := by omega
                  have hii : decide ((i : Int) ≥ 0) = true := by rw [decide_eq_true_iff]; omega
                  have HNX3 : Deep (u.set i (shG v i) = shK v (j + 1)) := ⟨by rw [hu, hi]; rfl⟩
                  have HJ1 : Deep ((i : Int) - 1 = (15 : Int) - ((j + 1 : Nat) : Int)) := ⟨by omega⟩
                  have HJ2 : Hid (j + 1 ≤ 16) := Lib.hid (by omega)
                  have HUL := Deep.mk hul
                  have hpv := HV3.out.put i (shG v i)
                  have hgv := grown_set wr vb i (.int .u8 ((shG v i).toNat : Int))
                  have HPV := Lib.hid hpv
                  have HGV := Lib.hid hgv
                  clear hu hui hup hul hpv hgv hi hki hlj hj
                  by_cases hpos : 0 < i
                  · obtain ⟨p, hp⟩ : ∃ p, p = i - 1 := ⟨_, rfl⟩
                    rw [← hp] at hcp
                    have hpi : (i : Int) - 1 = (p : Int) := by omega
                    have hp16 : (p : Int) < 16 := by omega
                    have hdp : decide ((i : Int) > 0) = true := by rw [decide_eq_true_iff]; omega
                    have hdp2 : decide (0 < i) = true := decide_eq_true hpos
                    have hval := sh_k1 v i hpos
                    rw [← hp] at hval
                    obtain ⟨zi, hzi⟩ : ∃ z, z = v.getD i 0 := ⟨_, rfl⟩
                    obtain ⟨zp, hzp⟩ : ∃ z, z = v.getD p 0 := ⟨_, rfl⟩
                    rw [← hzi] at hci hval
                    rw [← hzp] at hcp hval
                    have hzi8 := zi.toNat_lt
                    have hzp8 := zp.toNat_lt
                    have HVAL := Deep.mk hval
                    have HPI := Deep.mk hpi
                    clear hp hzi hzp hval hpos
                    go_wp2_with fail
                    clear hcp hci hfi
                    rw [HVAL.out]
                    refine ⟨⟨j + 1, HJ2.out, by rw [← HJ1.out, HPI.out], ?_, ?_, ?_⟩, by simp [intOf]; omega⟩
                    · exact Lib.hid (HO3.out.grown HGV.out (by intro e; have := Option.some.inj e; omega))
                    · rw [← HNX3.out]; exact HPV
                    · exact Lib.hid (HB3.out.grown HGV.out HB3.out.size (fun q hq => by have := Option.some.inj hq; omega))
                  · have hiz : i = 0 := by omega
                    have hdp : decide ((i : Int) > 0) = false := by rw [decide_eq_false_iff_not]; omega
                    have hdp2 : decide (0 < i) = false := decide_eq_false hpos
                    have hval := sh_k0 v
                    rw [← hiz] at hval
                    obtain ⟨zi, hzi⟩ : ∃ z, z = v.getD i 0 := ⟨_, rfl⟩
                    rw [← hzi] at hci hval
                    have hzi8 := zi.toNat_lt
                    have HIZ := Deep.mk hiz
                    rw [Int.add_zero] at hval
                    have HVAL := Deep.mk hval
                    clear hzi hval hpos hcp hiz
                    go_wp2_with fail
                    clear hci hfi
                    rw [HVAL.out]
                    refine ⟨⟨j + 1, HJ2.out, by rw [← HJ1.out], ?_, ?_, ?_⟩, by first | (simp [intOf]; done) | (simp [intOf]; omega)⟩
                    · exact Lib.hid (HO3.out.grown HGV.out (by intro e; have := Option.some.inj e; omega))
                    · rw [← HNX3.out]; exact HPV
                    · exact Lib.hid (HB3.out.grown HGV.out HB3.out.size (fun q hq => by have := Option.some.inj hq; omega))
                · have hj16 : j = 16 := by omega
                  obtain ⟨t, ht⟩ : ∃ t, t = (15 : Int) - (j : Int) := ⟨_, rfl⟩
                  rw [← ht]
                  have htd : decide (t ≥ 0) = false := by rw [decide_eq_false_iff_not]; omega
                  have htn : ¬ (0 ≤ t) := by omega
                  have HVS : Hid (Pb wr vb 5 (shL v)) := by
                    have h := HV3.out
                    rw [hj16, shK_all v HVL.out] at h
                    exact Lib.hid h
                  clear HV3 ht hj hlj hj16
                  go_wp2_with fail
                  refine ⟨⟨n + 1, by have := HLT.out; omega, by go_num, ?_, ?_, HB3⟩, by have := HLT.out; simp [intOf]; omega⟩
                  · rw [← HNX.out]; exact HO3
                  · rw [vN, ← HV0.out, HXV.out]; exact HVS
    · have hnd : decide ((n : Int) < 128) = false := by rw [decide_eq_false_iff_not]; omega
      have hn128 : n = 128 := by omega
      obtain ⟨z, hz⟩ : ∃ z, z = tmL a b := ⟨_, rfl⟩
      have hzl : z.length = 16 := by rw [hz]; exact tm_len HBL.out
      have HWN : Hid (Wh wr ob 5 (aRow z)) := by
        have h := HO.out
        rw [hn128] at h
        rw [hz]
        exact Lib.hid h
      have HZ := Deep.mk hz
      have HZL := Deep.mk hzl
      clear HO HV hlt hn hn128 hz hzl
      go_wp2
      go_ret
      have hown := own_of_wh (l := z.map cell8) HWN.out w.heap.size 16 16 hwo (by rw [List.length_map, HZL.out]) (Nat.le_refl _) (by unfold maxLen; omega)
      rw [List.take_of_length_le (by rw [List.length_map, HZL.out]; exact Nat.le_refl _)] at hown
      exact ⟨_, _, rfl, Nat.le_refl _, by unfold maxLen; omega, by rw [← HZ.out]; exact hown, HB.out⟩
end Go.Proofs.YtblclinfcdalaaaDoor
