/-
  The walk through the statement AesSeals.
-/
import Derived.Test.YtkefjckhkibpfaaAsRSeal
namespace Go.Proofs.Ytkefjckhkibpfaa
open Go.RowKit
set_option linter.unusedVariables false

/-- What is held may be made more on the way. -/
theorem wpAnyH_moreA {P : Program} {md : Region.Mode} {ops : Array Oper} {Q : Exit → Act → World → Prop} {S S' : World → Prop} (hSS : ∀ w, S' w → S w) :
    ∀ (fuel : Nat) (listed : Array Bool) (a : Act) (w : World), wpAnyH P md ops Q S' fuel listed a w → wpAnyH P md ops Q S fuel listed a w
  | 0, _, _, _, h => h
  | fuel + 1, _, _, _, h => ⟨h.1, fun i hi => wpOp_mono (fun a' w' h' => ⟨hSS _ h'.1, wpAnyH_moreA hSS fuel _ a' w' h'.2⟩) (h.2 i hi)⟩
theorem SinceA.sl {a b : World} (h : SinceA a b) {B : Nat} {A : Option Addr} {l : List UInt8} (hs : Sl a B A l) (hB : B ≤ a.heap.size) : Sl b B A l := Sv.below hs (Below.mono h hB)
theorem yields_strA {P : Program} {ops : Array Oper} {S : World → Prop} {op : Oper} {a : Act} (hw : Region.wanted op (yielded ops a.tmps) = true) (src dst e : TypeId) (x : Operand) (ho : op.op = .convert src dst x)
    (hs : P.underlying src = some (.slice e)) (he : P.underlying e = some (.int .u8)) (hd : P.underlying dst = some .string) (B : Nat) (A : Option Addr) (n c : Nat) (l : List UInt8) (hx : a.eval x = .slice A n c) (hn : l.length = n) (hS : ∀ w, S w → Sl w B A l) :
    YieldsIf P ops S op (.string (strB l)) a :=
  .inl ⟨hw, fun w hw' => by
    unfold execOp
    simp only [ho, hx, Sem.run_bind, run_string_sl w src dst e hs he hd B A n c l (hS w hw') hn, Result.andThen_ok, Sem.run_pure]⟩
theorem strB_app (l m : List UInt8) : strB l ++ strB m = strB (l ++ m) := by
  apply ByteArray.ext
  rw [ByteArray.data_append]
  simp [strB]
theorem flat_cut (ks : List (List UInt8)) (n : Nat) (hk : B11 ks) (hn : n < 11) : (ks.flatten.drop (n * 16)).take 16 = ks.getD n [] := by
  have hl := hk.at_ hn
  apply List.ext_getElem?
  intro i
  by_cases hi : i < 16
  · rw [List.getElem?_take_of_lt hi, List.getElem?_drop, show n * 16 + i = 16 * n + i by omega, flat_get ks n i hk.2 (by rw [hk.1]; exact hn) hi]
  · rw [List.getElem?_eq_none (by rw [List.length_take]; omega), List.getElem?_eq_none (by omega)]
/-- A block of eleven, by value. -/
theorem idx11 (ks : List (List UInt8)) (n : Nat) (w : World) (hk : B11 ks) (hn : n < 11) : (Instr.index 27 (.agg (aRow ks.flatten)) (.int .i64 (n : Int))).run Try.prog w = .ok (.agg (aRow (ks.getD n []))) w := by
  have h2 : (sizeOf 22).run Try.prog w = .ok 16 w := by rfl
  have h4 : (part 22 (aRow ks.flatten) (n * 16)).run Try.prog w = .ok (.agg (aRow (ks.getD n []))) w := by
    have h5 : (isAgg 22).run Try.prog w = .ok true w := by rfl
    have e : (aRow ks.flatten).extract (n * 16) (n * 16 + 16) = aRow (ks.getD n []) := by
      rw [← flat_cut ks n hk hn, aRow, List.extract_toArray, List.extract_eq_drop_take', aRow, List.map_take, List.map_drop, List.drop_take, show n * 16 + 16 - n * 16 = 16 by omega]
    simp [part, h5]
    simpa using e
  have h3 : (0 : Int) ≤ (n : Int) ∧ (n : Int) < 11 := by omega
  simp [Instr.index, asIntOf, run_underlying Try.underlying27, h2, hn, h4]

set_option maxRecDepth 100000 in
set_option maxHeartbeats 800000 in
theorem seals_any (x : UInt8) (key bl : List UInt8) (w : World) (hk : key.length = 16) (hb : bl.length = 16) :
    Calls Try.prog 3 #[.int .u8 (x.toNat : Int), .agg (aRow key), .agg (aRow bl)] w fun e w' => e = .returned (.bool true) ∧ Below w.heap.size w w' := by
  have HKL := Deep.mk hk
  have HBL := Deep.mk hb
  have hkb := ksL_b hk
  have hnx := fun w' => new_any key w' hk
  have hkc := fun w' => keys_any key w' hk
  obtain ⟨ks, hks⟩ : ∃ ks, ks = ksL key := ⟨_, rfl⟩
  unfold MadeC at hnx
  obtain ⟨R, hR⟩ : ∃ R, R = aRow ks.flatten := ⟨_, rfl⟩
  have hcl : clN key 40 = ks.flatten := by rw [hks]; exact cl_ks hk
  rw [← hks] at hkb hnx hkc
  rw [← hR] at hkc
  obtain ⟨p, hp⟩ : ∃ p, p = seL ks bl := ⟨_, rfl⟩
  have hp16 : p.length = 16 := by rw [hp]; exact seL_len _ _
  have hsa := fun (g : Nat) (w' : World) (hg : Wh w' g 39 (aRow ks.flatten)) => seal_any g ks bl w' hkb hg hb
  rw [← hp] at hsa
  have hri : ∀ (n : Nat) w', n < 11 → (Instr.index 27 (.agg R) (.int .i64 (n : Int))).run Try.prog w' = .ok (.agg (aRow (ks.getD n []))) w' := fun n w' hn => by rw [hR]; exact idx11 ks n w' hkb hn
  have HRI := Deep.mk hri
  have HKB := Deep.mk hkb
  have HCL := Deep.mk hcl
  have HP := Deep.mk hp
  have HP16 := Deep.mk hp16
  have HNX := Deep.mk hnx
  have HKC := Deep.mk hkc
  have HSA := Deep.mk hsa
  clear hk hb hkb hnx hkc hks hcl hp hp16 hsa hri hR
  obtain ⟨hbe, h2, h3⟩ := made2 w (aRow key) (aRow bl) 22 22
  go_enter Try.func3, Try.ntmps3
  go_upto_region 1 with (fail)
  generalize (w.alloc (.cells (aRow key) 22)).alloc (.cells (aRow bl) 22) = W at *
  obtain ⟨kb, hkb⟩ : ∃ c, c = w.heap.size := ⟨_, rfl⟩
  obtain ⟨bb, hbb⟩ : ∃ c, c = w.heap.size + 1 := ⟨_, rfl⟩
  rw [← hkb] at h2
  rw [← hbb] at h3
  rw [← hbb, ← hkb]
  have HBE := Lib.hid hbe
  have H2 := Lib.hid h2
  have H3 := Lib.hid h3
  clear hkb hbb hbe h2 h3
  go_upto_region 3 with (go_at_call 5; refine (known_any _).mono ?_; rintro e w1 ⟨rfl, hb1⟩; have HB1 := Lib.hid hb1; clear hb1)
  have HBE1 := Lib.hid (HBE.out.trans (HB1.out.mono HBE.out.size))
  have H21 := Lib.hid (H2.out.below HB1.out H2.out.lt)
  have H31 := Lib.hid (H3.out.below HB1.out H3.out.lt)
  clear H2 H3 HBE HB1
  have hbox := box_any
  have hol := oT_len
  obtain ⟨OT, hOT⟩ : ∃ OT, OT = oT := ⟨_, rfl⟩
  rw [← hOT] at hbox hol
  have HBOX := Deep.mk hbox
  have HOT := Deep.mk hOT
  have HOL := Deep.mk hol
  clear hbox hol hOT
  go_upto_region 4 with (go_at_call 6; refine (HBOX.out _).mono ?_; rintro e w2 ⟨Ab, cb, rfl, hab, hcb, hob, hb2⟩; rw [HOL.out] at hob hab; rw [HOL.out]; have HOB := Lib.hid (Sv.of_own hob); have HB2 := Lib.hid hb2; clear hb2 hob)
  have HBE2 := Lib.hid (HBE1.out.trans (HB2.out.mono HBE1.out.size))
  have H22 := Lib.hid (H21.out.below HB2.out H21.out.lt)
  have H32 := Lib.hid (H31.out.below HB2.out H31.out.lt)
  clear H21 H31 HBE1 HB2
  go_wp2_with fail
  have hcols := cols_any key Ab (some ⟨kb, 0, none⟩) cb 16 w2.heap.size w2 (Nat.le_refl _) HKL.out (by rw [← HOT.out]; exact HOB.out) (sl_of_whA H22.out)
  obtain ⟨C, hC⟩ : ∃ C, C = clN key 40 := ⟨_, rfl⟩
  have hC176 : C.length = 176 := by rw [hC, clN_len HKL.out]
  rw [← hC] at hcols
  refine hcols.mono ?_
  rintro e w3 ⟨Ac, cc, rfl, hac, hcc, hoc, hb3⟩
  rw [hC176] at hac hoc ⊢
  have HCE : Deep (C = ks.flatten) := ⟨by rw [hC, HCL.out]⟩
  have HSC := Lib.hid (show Sl w3 w3.heap.size Ac C from Sv.of_own hoc)
  have HBE3 := Lib.hid (HBE2.out.trans (hb3.mono HBE2.out.size))
  have H23 := Lib.hid (H22.out.below hb3 H22.out.lt)
  have H33 := Lib.hid (H32.out.below hb3 H32.out.lt)
  have HOB3 := Lib.hid (show Sl w3 w3.heap.size Ab OT from (HOB.out.below hb3).keep hb3.size (fun _ _ => rfl))
  have HC176 := Deep.mk hC176
  clear hcols hC hoc hb3 HOB H22 H32 HBE2 HCL hC176
  go_wp2_with (refine wpList_load_row rfl 22 (.tmp 4) rfl kb rfl _ (aRow key) _ _ H23.out Try.underlying22 rfl (info_aRow HKL.out) ?_)
  refine (HKC.out _).mono ?_
  rintro e w4 ⟨rfl, hb4⟩
  have HBE4 := Lib.hid (HBE3.out.trans (hb4.mono HBE3.out.size))
  have H24 := Lib.hid (H23.out.below hb4 H23.out.lt)
  have H34 := Lib.hid (H33.out.below hb4 H33.out.lt)
  have HSC4 := Lib.hid (show Sl w4 w4.heap.size Ac C from (HSC.out.below hb4).keep hb4.size (fun _ _ => rfl))
  have HOB4 := Lib.hid (show Sl w4 w4.heap.size Ab OT from (HOB3.out.below hb4).keep hb4.size (fun _ _ => rfl))
  clear hb4 HSC HOB3 H23 H33 HBE3
  go_wp2
  go_loopw [9, 11, 21] (fun vs _ vi wr => ∃ (k : Nat) (S : ByteArray), k ≤ 11 ∧ vi = .int .i64 (k : Int) ∧ Deep (S = strB ((ks.take k).flatten)) ∧ vs = .string S ∧ Hid (Below w4.heap.size w4 wr)) (fun _ _ vi _ => 11 - (intOf vi).toNat)
  case atStart => exact ⟨0, _, by omega, rfl, ⟨rfl⟩, rfl, Lib.hid (Below.refl _ _)⟩
  case round =>
    obtain ⟨k, S, hk, rfl, HS, rfl, HB⟩ := hrel
    by_cases hlt : k < 11
    · have hix := HRI.out k wr hlt
      obtain ⟨y, hy⟩ : ∃ y, y = ks.getD k [] := ⟨_, rfl⟩
      have hy16 : y.length = 16 := by rw [hy]; exact HKB.out.at_ hlt
      rw [← hy] at hix
      have HY := Deep.mk hy
      have HY16 := Deep.mk hy16
      clear hy hy16
      go_upto_region 9 with (refine wpList_store_row rfl 22 (.tmp 11) (.tmp 23) rfl wr.heap.size (aRow y) rfl rfl _ _ (heap_alloc_new wr _) (info_aRow HY16.out) (by rw [aRow_size, HY16.out]; rfl) (aRow_one _) ?_; rw [World.setRow_alloc_new])
      have hwn : Wh (wr.alloc (.cells (aRow y) 22)) wr.heap.size 22 (aRow y) := Wh.new _ _ _
      have HBN := Lib.hid (HB.out.alloc HB.out.size (.cells (aRow y) 22))
      obtain ⟨nb, hnb⟩ : ∃ nb, nb = wr.heap.size := ⟨_, rfl⟩
      rw [← hnb] at hwn ⊢
      generalize wr.alloc (.cells (aRow y) 22) = w5 at *
      have hstr := run_string_sl (P := Try.prog) w5 24 9 5 Try.underlying24 Try.underlying5 Try.underlying9 w5.heap.size (some ⟨nb, 0, none⟩) 16 16 y (sl_of_whA hwn) HY16.out
      obtain ⟨Sy, hSy⟩ : ∃ Sy, Sy = strB y := ⟨_, rfl⟩
      rw [← hSy] at hstr
      have HSY := Deep.mk hSy
      have hyz : Sy.size ≤ 16 := by rw [hSy, show (strB y).size = y.length from rfl, HY16.out]; exact Nat.le_refl _
      have hSz : S.size ≤ 176 := by
        rw [HS.out, show (strB (ks.take k).flatten).size = (ks.take k).flatten.length from rfl, flat16 _ (fun z hz => HKB.out.2 z (List.mem_of_mem_take hz)), List.length_take]
        have := HKB.out.1
        omega
      have HSA2 : Deep (S ++ Sy = strB (ks.take (k + 1)).flatten) := ⟨by
        have hkl : k < ks.length := by rw [HKB.out.1]; exact hlt
        rw [HS.out, hSy, List.take_add_one, List.flatten_append, HY.out]
        have e : ks[k]? = some (ks.getD k []) := by simp [List.getD, hkl]
        rw [e, strB_app]
        simp⟩
      clear hSy hnb hwn hix
      go_wp2
      go_roundw
      case rel => exact ⟨k + 1, S ++ Sy, by omega, by go_num, HSA2, rfl, HBN⟩
      case measure => simp [intOf]; omega
    · have hkd : decide ((k : Int) < 11) = false := by rw [decide_eq_false_iff_not]; omega
      have HSF : Deep (S = strB C) := ⟨by
        rw [HS.out, show k = 11 by omega, List.take_of_length_le (by rw [HKB.out.1]; exact Nat.le_refl _), HCE.out]⟩
      clear HS hlt hk
      have HBE5 := Lib.hid (HBE4.out.trans (HB.out.mono HBE4.out.size))
      have h25 := H24.out.below HB.out H24.out.lt
      have h35 := H34.out.below HB.out H34.out.lt
      have HSC5 := Lib.hid (show Sl wr w4.heap.size Ac C from HSC4.out.below HB.out)
      have HOB5 := Lib.hid (show Sl wr w4.heap.size Ab OT from HOB4.out.below HB.out)
      have hz45 := HB.out.size
      clear H24 H34 HSC4 HOB4 HB HBE4
      go_upto_region 11 with (fail)
      go_cut [12] (fun v wx => ∃ r, v = .pointer (some ⟨r, 0, none⟩) ∧ Hid (Wh wx r 22 (aRow p)) ∧ Hid (Below wr.heap.size wr wx))
      case first =>
        go_wp2_with fail
        refine wp_region_held_drew (S := fun w' => SinceA wr.drew w') (by kernel_rfl) (SinceA.self _) (fun _ => ?_)
        have hW0 : Below wr.heap.size wr wr.drew := (Below.refl _ _).drew
        have hA : Wh wr.drew kb 22 (aRow key) := h25
        have hB : Wh wr.drew bb 22 (aRow bl) := h35
        generalize wr.drew = w0 at *
        refine wpAnyH_take (i := 0) (v := .agg (aRow key)) (List.getElem?_toArray.trans rfl) (by kernel_rfl) (by kernel_rfl) (by kernel_rfl) (fun _ _ _ h => h) (yields_blk (by rfl) (.tmp 4) rfl kb 0 rfl key HKL.out (fun w' hS => (SinceA.wh hS hA).range)) (SinceA.self _) ?_
        refine act_normA (by simp only [Act.put, List.setIfInBounds_toArray, List.set_cons_zero, List.set_cons_succ]; rfl) ?_
        refine wpAnyH_take (i := 2) (v := .agg (aRow bl)) (List.getElem?_toArray.trans rfl) (by kernel_rfl) (by kernel_rfl) (by kernel_rfl) (fun _ _ _ h => h) (yields_blk (by rfl) (.tmp 5) rfl bb 0 rfl bl HBL.out (fun w' hS => (SinceA.wh hS hB).range)) (SinceA.self _) ?_
        refine act_normA (by simp only [Act.put, List.setIfInBounds_toArray, List.set_cons_zero, List.set_cons_succ]; rfl) ?_
        refine wpAnyH_ready (rs := [1, 4]) (by kernel_rfl) (by simp) (AllReadyH.cons (List.getElem?_toArray.trans rfl) (fun K' hK => ?_) (AllReadyH.cons (List.getElem?_toArray.trans rfl) (fun K' hK => ?_) AllReadyH.nil))
        · refine wanted_goA rfl ?_
          go_simp
          refine (HNX.out w0).mono ?_
          rintro e wa1 ⟨gwa1, rfl, hgewa1, hgwa1, hbwa1⟩
          have hBwa1 := SinceA.trans (SinceA.self w0) hbwa1
          have hlywa1 := (hB).lt
          have hywa1 := SinceA.wh hbwa1 hB
          refine hK.out _ _ hBwa1 (fun _ => ?_)
          clear hK K'
          refine wpAnyH_ready (rs := [3, 4]) (by kernel_rfl) (by simp) (AllReadyH.cons (List.getElem?_toArray.trans rfl) (fun K' hK => ?_) (AllReadyH.cons (List.getElem?_toArray.trans rfl) (fun K' hK => ?_) AllReadyH.nil))
          · refine wanted_goA rfl ?_
            go_simp
            refine (HSA.out gwa1 wa1 hgwa1).mono ?_
            rintro e wa2 ⟨rfl, hbwa2⟩
            have hBwa2 := SinceA.trans hBwa1 hbwa2
            have hlywa2 := (hywa1).lt
            have hywa2 := SinceA.wh hbwa2 hywa1
            have hlgwa2 := (hgwa1).lt
            have hgwa2 := SinceA.wh hbwa2 hgwa1
            refine hK.out _ _ hBwa2 (fun _ => ?_)
            clear hK K'
            refine wpAnyH_ready (rs := [4]) (by kernel_rfl) (by simp) (AllReadyH.cons (List.getElem?_toArray.trans rfl) (fun K' hK => ?_) AllReadyH.nil)
            refine wanted_goA rfl ?_
            go_simp
            rw [zeros16]
            obtain ⟨rwa3, erwa3⟩ : ∃ r, r = wa2.heap.size := ⟨_, rfl⟩
            rw [← erwa3]
            have hbwa3 : SinceA wa2 (wa2.alloc (.cells (aRow (List.replicate 16 0)) 22)) := (Below.refl _ _).alloc (Nat.le_refl _) _
            have hxwa3 : Wh (wa2.alloc (.cells (aRow (List.replicate 16 0)) 22)) rwa3 22 (aRow (List.replicate 16 0)) := by rw [erwa3]; exact Wh.new _ _ _
            have hnrwa3 : w0.heap.size ≤ rwa3 := by rw [erwa3]; exact (hBwa2).size
            generalize wa2.alloc (.cells (aRow (List.replicate 16 0)) 22) = wa3 at *
            have hBwa3 := SinceA.trans hBwa2 hbwa3
            have hywa3 := SinceA.wh hbwa3 hywa2
            have hdyr : bb ≠ rwa3 := by have := (hywa2).lt; omega
            have hgwa3 := SinceA.wh hbwa3 hgwa2
            have hdgr : gwa1 ≠ rwa3 := by have := (hgwa2).lt; omega
            refine hK.out _ _ hBwa3 (fun _ => ?_)
            clear hK K' erwa3
            refine wpAnyH_ready (rs := [5]) (by kernel_rfl) (by simp) (AllReadyH.cons (List.getElem?_toArray.trans rfl) (fun K' hK => ?_) AllReadyH.nil)
            refine wanted_goA rfl ?_
            refine wp_store_mid 22 (.tmp 12) (.tmp 32) rfl rwa3 0 (aRow p) rfl rfl (by rw [aRow_size, HP16.out]; exact (hxwa3).there zlen) (info_aRow HP16.out) (aRow_one _) ?_
            rw [aRow_list]
            obtain ⟨hxwa4, hvwa4⟩ := Wh.over hxwa3 zlen HP16.out
            generalize wa3.setCells rwa3 0 (p.map cell8) = wa4 at *
            have hBwa4 : SinceA w0 wa4 := below_grown hBwa3 hvwa4 hnrwa3 (hBwa3).size
            have hywa4 := Wh.grown hywa3 hvwa4 (by intro e; have := Option.some.inj e; omega)
            have hgwa4 := Wh.grown hgwa3 hvwa4 (by intro e; have := Option.some.inj e; omega)
            refine hK.out _ _ hBwa4 (fun _ => ?_)
            clear hK K'
            refine wpAnyH_done (by kernel_rfl) ?_ _
            go_wp2_with fail
            go_meet
            exact ⟨rwa3, rfl, Lib.hid hxwa4, Lib.hid (hW0.trans ((hBwa4).mono hW0.size))⟩
          · refine wanted_goA rfl ?_
            go_simp
            rw [zeros16]
            obtain ⟨rwa5, erwa5⟩ : ∃ r, r = wa1.heap.size := ⟨_, rfl⟩
            rw [← erwa5]
            have hbwa5 : SinceA wa1 (wa1.alloc (.cells (aRow (List.replicate 16 0)) 22)) := (Below.refl _ _).alloc (Nat.le_refl _) _
            have hxwa5 : Wh (wa1.alloc (.cells (aRow (List.replicate 16 0)) 22)) rwa5 22 (aRow (List.replicate 16 0)) := by rw [erwa5]; exact Wh.new _ _ _
            have hnrwa5 : w0.heap.size ≤ rwa5 := by rw [erwa5]; exact (hBwa1).size
            generalize wa1.alloc (.cells (aRow (List.replicate 16 0)) 22) = wa5 at *
            have hBwa5 := SinceA.trans hBwa1 hbwa5
            have hywa5 := SinceA.wh hbwa5 hywa1
            have hdyr : bb ≠ rwa5 := by have := (hywa1).lt; omega
            have hgwa5 := SinceA.wh hbwa5 hgwa1
            have hdgr : gwa1 ≠ rwa5 := by have := (hgwa1).lt; omega
            refine hK.out _ _ hBwa5 (fun _ => ?_)
            clear hK K' erwa5
            refine wpAnyH_ready (rs := [3]) (by kernel_rfl) (by simp) (AllReadyH.cons (List.getElem?_toArray.trans rfl) (fun K' hK => ?_) AllReadyH.nil)
            refine wanted_goA rfl ?_
            go_simp
            refine (HSA.out gwa1 wa5 hgwa5).mono ?_
            rintro e wa6 ⟨rfl, hbwa6⟩
            have hBwa6 := SinceA.trans hBwa5 hbwa6
            have hlywa6 := (hywa5).lt
            have hywa6 := SinceA.wh hbwa6 hywa5
            have hlgwa6 := (hgwa5).lt
            have hgwa6 := SinceA.wh hbwa6 hgwa5
            have hlrwa6 := (hxwa5).lt
            have hrwa6 := SinceA.wh hbwa6 hxwa5
            refine hK.out _ _ hBwa6 (fun _ => ?_)
            clear hK K'
            refine wpAnyH_ready (rs := [5]) (by kernel_rfl) (by simp) (AllReadyH.cons (List.getElem?_toArray.trans rfl) (fun K' hK => ?_) AllReadyH.nil)
            refine wanted_goA rfl ?_
            refine wp_store_mid 22 (.tmp 12) (.tmp 32) rfl rwa5 0 (aRow p) rfl rfl (by rw [aRow_size, HP16.out]; exact (hrwa6).there zlen) (info_aRow HP16.out) (aRow_one _) ?_
            rw [aRow_list]
            obtain ⟨hxwa7, hvwa7⟩ := Wh.over hrwa6 zlen HP16.out
            generalize wa6.setCells rwa5 0 (p.map cell8) = wa7 at *
            have hBwa7 : SinceA w0 wa7 := below_grown hBwa6 hvwa7 hnrwa5 (hBwa6).size
            have hywa7 := Wh.grown hywa6 hvwa7 (by intro e; have := Option.some.inj e; omega)
            have hgwa7 := Wh.grown hgwa6 hvwa7 (by intro e; have := Option.some.inj e; omega)
            refine hK.out _ _ hBwa7 (fun _ => ?_)
            clear hK K'
            refine wpAnyH_done (by kernel_rfl) ?_ _
            go_wp2_with fail
            go_meet
            exact ⟨rwa5, rfl, Lib.hid hxwa7, Lib.hid (hW0.trans ((hBwa7).mono hW0.size))⟩
        · refine wanted_goA rfl ?_
          go_simp
          rw [zeros16]
          obtain ⟨rwa8, erwa8⟩ : ∃ r, r = w0.heap.size := ⟨_, rfl⟩
          rw [← erwa8]
          have hbwa8 : SinceA w0 (w0.alloc (.cells (aRow (List.replicate 16 0)) 22)) := (Below.refl _ _).alloc (Nat.le_refl _) _
          have hxwa8 : Wh (w0.alloc (.cells (aRow (List.replicate 16 0)) 22)) rwa8 22 (aRow (List.replicate 16 0)) := by rw [erwa8]; exact Wh.new _ _ _
          have hnrwa8 : w0.heap.size ≤ rwa8 := by rw [erwa8]; exact ((SinceA.self w0)).size
          generalize w0.alloc (.cells (aRow (List.replicate 16 0)) 22) = wa8 at *
          have hBwa8 := SinceA.trans (SinceA.self w0) hbwa8
          have hywa8 := SinceA.wh hbwa8 hB
          have hdyr : bb ≠ rwa8 := by have := (hB).lt; omega
          refine hK.out _ _ hBwa8 (fun _ => ?_)
          clear hK K' erwa8
          refine wpAnyH_ready (rs := [1]) (by kernel_rfl) (by simp) (AllReadyH.cons (List.getElem?_toArray.trans rfl) (fun K' hK => ?_) AllReadyH.nil)
          refine wanted_goA rfl ?_
          go_simp
          refine (HNX.out wa8).mono ?_
          rintro e wa9 ⟨gwa9, rfl, hgewa9, hgwa9, hbwa9⟩
          have hBwa9 := SinceA.trans hBwa8 hbwa9
          have hlywa9 := (hywa8).lt
          have hywa9 := SinceA.wh hbwa9 hywa8
          have hlrwa9 := (hxwa8).lt
          have hrwa9 := SinceA.wh hbwa9 hxwa8
          refine hK.out _ _ hBwa9 (fun _ => ?_)
          clear hK K'
          refine wpAnyH_ready (rs := [3]) (by kernel_rfl) (by simp) (AllReadyH.cons (List.getElem?_toArray.trans rfl) (fun K' hK => ?_) AllReadyH.nil)
          refine wanted_goA rfl ?_
          go_simp
          refine (HSA.out gwa9 wa9 hgwa9).mono ?_
          rintro e wa10 ⟨rfl, hbwa10⟩
          have hBwa10 := SinceA.trans hBwa9 hbwa10
          have hlywa10 := (hywa9).lt
          have hywa10 := SinceA.wh hbwa10 hywa9
          have hlrwa10 := (hrwa9).lt
          have hrwa10 := SinceA.wh hbwa10 hrwa9
          have hlgwa10 := (hgwa9).lt
          have hgwa10 := SinceA.wh hbwa10 hgwa9
          refine hK.out _ _ hBwa10 (fun _ => ?_)
          clear hK K'
          refine wpAnyH_ready (rs := [5]) (by kernel_rfl) (by simp) (AllReadyH.cons (List.getElem?_toArray.trans rfl) (fun K' hK => ?_) AllReadyH.nil)
          refine wanted_goA rfl ?_
          refine wp_store_mid 22 (.tmp 12) (.tmp 32) rfl rwa8 0 (aRow p) rfl rfl (by rw [aRow_size, HP16.out]; exact (hrwa10).there zlen) (info_aRow HP16.out) (aRow_one _) ?_
          rw [aRow_list]
          obtain ⟨hxwa11, hvwa11⟩ := Wh.over hrwa10 zlen HP16.out
          generalize wa10.setCells rwa8 0 (p.map cell8) = wa11 at *
          have hBwa11 : SinceA w0 wa11 := below_grown hBwa10 hvwa11 hnrwa8 (hBwa10).size
          have hywa11 := Wh.grown hywa10 hvwa11 (by intro e; have := Option.some.inj e; omega)
          have hgwa11 := Wh.grown hgwa10 hvwa11 (by intro e; have := Option.some.inj e; omega)
          refine hK.out _ _ hBwa11 (fun _ => ?_)
          clear hK K'
          refine wpAnyH_done (by kernel_rfl) ?_ _
          go_wp2_with fail
          go_meet
          exact ⟨rwa8, rfl, Lib.hid hxwa11, Lib.hid (hW0.trans ((hBwa11).mono hW0.size))⟩
      case rest =>
        obtain ⟨r, rfl, HRP, HBC⟩ := hcut
        have hbc0 : Below w4.heap.size w4 w4 := Below.refl _ _
        have HBE6 := Lib.hid (HBE5.out.trans (HBC.out.mono HBE5.out.size))
        have h36 := h35.below HBC.out h35.lt
        have hwr : wr.heap.size ≤ wc.heap.size := HBC.out.size
        have hsc6 : Sl wc w4.heap.size Ac C := HSC5.out.below (HBC.out.mono hz45)
        have hob6 : Sl wc w4.heap.size Ab OT := HOB5.out.below (HBC.out.mono hz45)
        have hz46 : w4.heap.size ≤ wc.heap.size := by omega
        clear HBE5 h25 h35 HSC5 HOB5 HBC
        obtain ⟨ob, oo, rfl, hobl, hoc⟩ := Sl.at_ hob6 (by rw [HOL.out]; omega)
        have hx8 := x.toNat_lt
        have hxc : wc.cell? ⟨ob, oo + x.toNat, none⟩ = some (.int .u8 ((sB x).toNat : Int)) := by
          refine hoc x.toNat (sB x) ?_
          have h2 : x.toNat < oT.length := by rw [oT_len]; exact x.toNat_lt
          rw [HOT.out]
          simp [sB, List.getD, h2]
        clear hoc
        go_wp2_with fail
        refine wp_region_held_drew (S := fun w' => SinceA wc.drew w') (by kernel_rfl) (SinceA.self _) (fun _ => ?_)
        have hW0 : Below w.heap.size w wc.drew := HBE6.out.drew
        have hB : Wh wc.drew bb 22 (aRow bl) := h36
        have hR : Wh wc.drew r 22 (aRow p) := HRP.out
        have hC : Sl wc.drew w4.heap.size Ac C := hsc6
        have hO : Sl wc.drew w4.heap.size (some ⟨ob, oo, none⟩) OT := hob6
        have hX : wc.drew.cell? ⟨ob, oo + x.toNat, none⟩ = some (.int .u8 ((sB x).toNat : Int)) := hxc
        have hz0 : w4.heap.size ≤ wc.drew.heap.size := hz46
        have hsub := sub_any x wc.drew
        have hol : ob < wc.drew.heap.size := by omega
        clear HBE6 h36 HRP hsc6 hob6 hxc
        generalize wc.drew = w0 at *
        refine wpAnyH_take (i := 0) (v := .int .u8 (x.toNat : Int)) (List.getElem?_toArray.trans rfl) (by kernel_rfl) (by kernel_rfl) (by kernel_rfl) (fun _ _ _ h => h) (.inl ⟨rfl, fun w' hS => rfl⟩) (SinceA.self _) ?_
        refine act_normA (by simp only [Act.put, List.setIfInBounds_toArray, List.set_cons_zero, List.set_cons_succ]; rfl) ?_
        refine wpAnyH_take (i := 2) (v := .slice (some ⟨ob, oo, none⟩) 256 cb) (List.getElem?_toArray.trans rfl) (by kernel_rfl) (by kernel_rfl) (by kernel_rfl) (fun _ _ _ h => h) (.inl ⟨rfl, fun w' hS => rfl⟩) (SinceA.self _) ?_
        refine act_normA (by simp only [Act.put, List.setIfInBounds_toArray, List.set_cons_zero, List.set_cons_succ]; rfl) ?_
        refine wpAnyH_take (i := 3) (v := .int .u8 (x.toNat : Int)) (List.getElem?_toArray.trans rfl) (by kernel_rfl) (by kernel_rfl) (by kernel_rfl) (fun _ _ _ h => h) (.inl ⟨rfl, fun w' hS => rfl⟩) (SinceA.self _) ?_
        refine act_normA (by simp only [Act.put, List.setIfInBounds_toArray, List.set_cons_zero, List.set_cons_succ]; rfl) ?_
        refine wpAnyH_take (i := 4) (v := .pointer (some ⟨ob, oo + x.toNat, none⟩)) (List.getElem?_toArray.trans rfl) (by kernel_rfl) (by kernel_rfl) (by kernel_rfl) (fun _ _ _ h => h) (.inl ⟨rfl, fun w' hS => by simp [go_sem]; exact fun h => absurd h (by omega)⟩) (SinceA.self _) ?_
        refine act_normA (by simp only [Act.put, List.setIfInBounds_toArray, List.set_cons_zero, List.set_cons_succ]; rfl) ?_
        refine wpAnyH_take (i := 5) (v := .int .u8 ((sB x).toNat : Int)) (List.getElem?_toArray.trans rfl) (by kernel_rfl) (by kernel_rfl) (by kernel_rfl) (fun _ _ _ h => h) (.inl ⟨rfl, fun w' hS => by have hc := (Below.cell (hS : Below w0.heap.size w0 w') (p := ⟨ob, oo + x.toNat, none⟩) hol).trans hX; simp [go_sem, hc]⟩) (SinceA.self _) ?_
        refine act_normA (by simp only [Act.put, List.setIfInBounds_toArray, List.set_cons_zero, List.set_cons_succ]; rfl) ?_
        refine wpAnyH_ready (rs := [1]) (by kernel_rfl) (by simp) (AllReadyH.cons (List.getElem?_toArray.trans rfl) (fun K' hK => ?_) AllReadyH.nil)
        refine wanted_goA rfl ?_
        go_simp
        refine hsub.mono ?_
        rintro e w1 ⟨rfl, rfl⟩
        refine hK.out _ _ (SinceA.self _) (fun _ => ?_)
        clear hK K'
        refine wpAnyH_take (i := 6) (v := .bool true) (List.getElem?_toArray.trans rfl) (by kernel_rfl) (by kernel_rfl) (by kernel_rfl) (fun _ _ _ h => h) (.inl ⟨rfl, fun w' hS => by simp [go_sem]⟩) (SinceA.self _) ?_
        refine act_normA (by simp only [Act.put, List.setIfInBounds_toArray, List.set_cons_zero, List.set_cons_succ]; rfl) ?_
        refine wpAnyH_take (i := 7) (v := .bool true) (List.getElem?_toArray.trans rfl) (by kernel_rfl) (by kernel_rfl) (by kernel_rfl) (fun _ _ _ h => h) (.inl ⟨rfl, fun w' hS => rfl⟩) (SinceA.self _) ?_
        refine act_normA (by simp only [Act.put, List.setIfInBounds_toArray, List.set_cons_zero, List.set_cons_succ]; rfl) ?_
        refine wpAnyH_take (i := 8) (v := .string S) (List.getElem?_toArray.trans rfl) (by kernel_rfl) (by kernel_rfl) (by kernel_rfl) (fun _ _ _ h => h) (.inl ⟨rfl, fun w' hS => rfl⟩) (SinceA.self _) ?_
        refine act_normA (by simp only [Act.put, List.setIfInBounds_toArray, List.set_cons_zero, List.set_cons_succ]; rfl) ?_
        refine wpAnyH_take (i := 9) (v := .slice Ac 176 cc) (List.getElem?_toArray.trans rfl) (by kernel_rfl) (by kernel_rfl) (by kernel_rfl) (fun _ _ _ h => h) (.inl ⟨rfl, fun w' hS => rfl⟩) (SinceA.self _) ?_
        refine act_normA (by simp only [Act.put, List.setIfInBounds_toArray, List.set_cons_zero, List.set_cons_succ]; rfl) ?_
        refine wpAnyH_take (i := 10) (v := .string (strB C)) (List.getElem?_toArray.trans rfl) (by kernel_rfl) (by kernel_rfl) (by kernel_rfl) (fun _ _ _ h => h) (yields_strA (by rfl) 24 9 5 (.tmp 42) rfl Try.underlying24 Try.underlying5 Try.underlying9 w4.heap.size Ac 176 cc C rfl HC176.out (fun w' hS => SinceA.sl hS hC hz0)) (SinceA.self _) ?_
        refine act_normA (by simp only [Act.put, List.setIfInBounds_toArray, List.set_cons_zero, List.set_cons_succ]; rfl) ?_
        refine wpAnyH_take (i := 11) (v := .bool true) (List.getElem?_toArray.trans rfl) (by kernel_rfl) (by kernel_rfl) (by kernel_rfl) (fun _ _ _ h => h) (.inl ⟨rfl, fun w' hS => by simp [go_sem, HSF.out]⟩) (SinceA.self _) ?_
        refine act_normA (by simp only [Act.put, List.setIfInBounds_toArray, List.set_cons_zero, List.set_cons_succ]; rfl) ?_
        refine wpAnyH_take (i := 12) (v := .bool true) (List.getElem?_toArray.trans rfl) (by kernel_rfl) (by kernel_rfl) (by kernel_rfl) (fun _ _ _ h => h) (.inl ⟨rfl, fun w' hS => by simp [go_sem]⟩) (SinceA.self _) ?_
        refine act_normA (by simp only [Act.put, List.setIfInBounds_toArray, List.set_cons_zero, List.set_cons_succ]; rfl) ?_
        refine wpAnyH_take (i := 13) (v := .bool true) (List.getElem?_toArray.trans rfl) (by kernel_rfl) (by kernel_rfl) (by kernel_rfl) (fun _ _ _ h => h) (.inl ⟨rfl, fun w' hS => rfl⟩) (SinceA.self _) ?_
        refine act_normA (by simp only [Act.put, List.setIfInBounds_toArray, List.set_cons_zero, List.set_cons_succ]; rfl) ?_
        refine wpAnyH_take (i := 14) (v := .slice (some ⟨r, 0, none⟩) 16 16) (List.getElem?_toArray.trans rfl) (by kernel_rfl) (by kernel_rfl) (by kernel_rfl) (fun _ _ _ h => h) (.inl ⟨rfl, fun w' hS => by simp [go_sem]⟩) (SinceA.self _) ?_
        refine act_normA (by simp only [Act.put, List.setIfInBounds_toArray, List.set_cons_zero, List.set_cons_succ]; rfl) ?_
        refine wpAnyH_take (i := 15) (v := .string (strB p)) (List.getElem?_toArray.trans rfl) (by kernel_rfl) (by kernel_rfl) (by kernel_rfl) (fun _ _ _ h => h) (yields_strA (by rfl) 24 9 5 (.tmp 47) rfl Try.underlying24 Try.underlying5 Try.underlying9 w0.heap.size (some ⟨r, 0, none⟩) 16 16 p rfl HP16.out (fun w' hS => (SinceA.sl hS (sl_of_whA hR) (Nat.le_refl _)))) (SinceA.self _) ?_
        refine act_normA (by simp only [Act.put, List.setIfInBounds_toArray, List.set_cons_zero, List.set_cons_succ]; rfl) ?_
        refine wpAnyH_take (i := 16) (v := .slice (some ⟨ob, oo, none⟩) 256 cb) (List.getElem?_toArray.trans rfl) (by kernel_rfl) (by kernel_rfl) (by kernel_rfl) (fun _ _ _ h => h) (.inl ⟨rfl, fun w' hS => rfl⟩) (SinceA.self _) ?_
        refine act_normA (by simp only [Act.put, List.setIfInBounds_toArray, List.set_cons_zero, List.set_cons_succ]; rfl) ?_
        refine wpAnyH_take (i := 17) (v := .slice Ac 176 cc) (List.getElem?_toArray.trans rfl) (by kernel_rfl) (by kernel_rfl) (by kernel_rfl) (fun _ _ _ h => h) (.inl ⟨rfl, fun w' hS => rfl⟩) (SinceA.self _) ?_
        refine act_normA (by simp only [Act.put, List.setIfInBounds_toArray, List.set_cons_zero, List.set_cons_succ]; rfl) ?_
        refine wpAnyH_take (i := 18) (v := .slice (some ⟨bb, 0, none⟩) 16 16) (List.getElem?_toArray.trans rfl) (by kernel_rfl) (by kernel_rfl) (by kernel_rfl) (fun _ _ _ h => h) (.inl ⟨rfl, fun w' hS => by simp [go_sem]⟩) (SinceA.self _) ?_
        refine act_normA (by simp only [Act.put, List.setIfInBounds_toArray, List.set_cons_zero, List.set_cons_succ]; rfl) ?_
        refine wpAnyH_ready (rs := [19]) (by kernel_rfl) (by simp) (AllReadyH.cons (List.getElem?_toArray.trans rfl) (fun K' hK => ?_) AllReadyH.nil)
        refine wanted_goA rfl ?_
        go_simp
        refine (rseal_any ks bl (some ⟨ob, oo, none⟩) Ac (some ⟨bb, 0, none⟩) cb cc 16 w0.heap.size w0 (Nat.le_refl _) HKB.out HBL.out (by rw [← HOT.out]; exact hO.keep hz0 (fun _ _ => rfl)) (by rw [← HCE.out]; exact hC.keep hz0 (fun _ _ => rfl)) (sl_of_whA hB)).mono ?_
        rintro e w9 ⟨A9, c9, rfl, hs9, hb9⟩
        rw [← HP.out] at hs9
        have hS9 : SinceA w0 w9 := hb9
        refine hK.out _ _ hS9 (fun _ => ?_)
        clear hK K'
        refine wpAnyH_moreA (S' := fun w' => SinceA w9 w') (fun w' h => SinceA.trans hS9 h) _ _ _ _ ?_
        refine wpAnyH_take (i := 20) (v := .string (strB p)) (List.getElem?_toArray.trans rfl) (by kernel_rfl) (by kernel_rfl) (by kernel_rfl) (fun _ _ _ h => h) (yields_strA (by rfl) 24 9 5 (.tmp 52) rfl Try.underlying24 Try.underlying5 Try.underlying9 w9.heap.size A9 16 c9 p rfl HP16.out (fun w' hS => (SinceA.sl hS hs9 (Nat.le_refl _)))) (SinceA.self _) ?_
        refine act_normA (by simp only [Act.put, List.setIfInBounds_toArray, List.set_cons_zero, List.set_cons_succ]; rfl) ?_
        refine wpAnyH_take (i := 21) (v := .bool true) (List.getElem?_toArray.trans rfl) (by kernel_rfl) (by kernel_rfl) (by kernel_rfl) (fun _ _ _ h => h) (.inl ⟨rfl, fun w' hS => by simp [go_sem]⟩) (SinceA.self _) ?_
        refine act_normA (by simp only [Act.put, List.setIfInBounds_toArray, List.set_cons_zero, List.set_cons_succ]; rfl) ?_
        refine wpAnyH_take (i := 22) (v := .bool true) (List.getElem?_toArray.trans rfl) (by kernel_rfl) (by kernel_rfl) (by kernel_rfl) (fun _ _ _ h => h) (.inl ⟨rfl, fun w' hS => by simp [go_sem]⟩) (SinceA.self _) ?_
        refine act_normA (by simp only [Act.put, List.setIfInBounds_toArray, List.set_cons_zero, List.set_cons_succ]; rfl) ?_
        refine wpAnyH_ready (rs := [23]) (by kernel_rfl) (by simp) (AllReadyH.cons (List.getElem?_toArray.trans rfl) (fun K' hK => ?_) AllReadyH.nil)
        refine wanted_goA rfl ?_
        go_simp
        refine hK.out _ _ (SinceA.self _) (fun _ => ?_)
        clear hK K'
        refine wpAnyH_done (by kernel_rfl) ?_ _
        have HF := Lib.hid (hW0.trans (hS9.mono hW0.size))
        clear hS9 hb9 hs9 hW0 hB hR hC hO hX hsub hol
        go_wp2
        go_ret
        exact ⟨rfl, HF.out⟩
end Go.Proofs.Ytkefjckhkibpfaa
