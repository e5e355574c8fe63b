/-
  The document's own Label (hostlerref07).
-/
import Derived.Test.YtblclinfcdalaaaDoorKRExp
namespace Go.Proofs.YtblclinfcdalaaaDoor
open Go.RowKit
set_option linter.unusedVariables false

set_option maxRecDepth 100000 in
set_option maxHeartbeats 400000 in
theorem rlabel_none (sec : List UInt8) (S : ByteArray) (A : Option Addr) (m c : Nat) (n : Int) (w : World) (hsec : sec.length = 32) (hm : m ≤ 1000000) (hS : S.size ≤ 1000000) (hn : n < 1 ∨ 8160 < n ∨ 249 < S.size ∨ 255 < m) :
    Calls Tryd.prog 28 #[.agg (bRow sec), .string S, .slice A m c, .int .i64 n] w (GaveY w []) := by
  have hq : (∃ _ : decide (n < 1) = true, True) ∨ (∃ _ : decide (n < 1) = false, ∃ _ : decide (8160 < n) = true, True) ∨ (∃ _ : decide (n < 1) = false, ∃ _ : decide (8160 < n) = false, ∃ _ : decide ((249 : Int) < (S.size : Int)) = true, True) ∨ (∃ _ : decide (n < 1) = false, ∃ _ : decide (8160 < n) = false, ∃ _ : decide ((249 : Int) < (S.size : Int)) = false, ∃ _ : decide ((255 : Int) < (m : Int)) = true, True) := by
    by_cases a1 : n < 1
    · exact .inl ⟨decide_eq_true a1, trivial⟩
    by_cases a2 : 8160 < n
    · exact .inr (.inl ⟨decide_eq_false a1, decide_eq_true a2, trivial⟩)
    by_cases a3 : 249 < S.size
    · exact .inr (.inr (.inl ⟨decide_eq_false a1, decide_eq_false a2, decide_eq_true (by omega), trivial⟩))
    · exact .inr (.inr (.inr ⟨decide_eq_false a1, decide_eq_false a2, decide_eq_false (by omega), decide_eq_true (by omega), trivial⟩))
  have hb : Below w.heap.size w (w.alloc (.cells (bRow sec) 22)) := (Below.refl _ _).alloc (Nat.le_refl _) _
  have HSZ : (bRow sec).size = 32 := by rw [bRow_size, hsec]
  clear hn
  rcases hq with ⟨h1, _⟩ | ⟨h1, h2, _⟩ | ⟨h1, h2, h3, _⟩ | ⟨h1, h2, h3, h4, _⟩
  all_goals
    go_enter Tryd.func28, Tryd.ntmps28
    go_wp2
    go_ret
    exact ⟨none, 0, rfl, Nat.le_refl _, Nat.zero_le _, Sy.nil _ _ _, hb⟩

set_option maxRecDepth 100000 in
set_option maxHeartbeats 1600000 in
theorem rlabel_in (sec lab ctx : List UInt8) (A : Option Addr) (m c n : Nat) (w : World) (hsec : sec.length = 32)
    (hl : ctx.length = m) (hlc : m ≤ c) (hcm : c ≤ maxLen) (hs : Sl w w.heap.size A ctx) (hm : m ≤ 255) (hlab : lab.length ≤ 249) (hn1 : 1 ≤ n) (hn : n ≤ 8160) :
    Calls Tryd.prog 28 #[.agg (bRow sec), .string (strB lab), .slice A m c, .int .i64 (n : Int)] w (GaveY w (expK kW sec (labK lab ctx n) n)) := by
  obtain ⟨i0, hi0, hz0, hz1, hz2⟩ := info_parts info8
  have HSEC := Deep.mk hsec
  have HL := Deep.mk hl
  have HLC := Lib.hid hlc
  have HCM := Lib.hid hcm
  have HSZ : (bRow sec).size = 32 := by rw [bRow_size, hsec]
  have t0 : decide ((n : Int) < 1) = false := decide_eq_false (by omega)
  have t1 : decide ((8160 : Int) < (n : Int)) = false := decide_eq_false (by omega)
  have t2 : decide ((255 : Int) < (m : Int)) = false := decide_eq_false (by omega)
  have hW0 : Below w.heap.size w (w.alloc (.cells (bRow sec) 22)) := (Below.refl _ _).alloc (Nat.le_refl _) _
  have h2 : Wh (w.alloc (.cells (bRow sec) 22)) w.heap.size 22 (bRow sec) := Wh.new _ _ _
  have HSW := Lib.hid ((Sv.below hs hW0).keep hW0.size (fun _ _ => rfl))
  obtain ⟨S, hS⟩ : ∃ S, S = strB lab := ⟨_, rfl⟩
  have hSz : S.size = lab.length := by rw [hS]; rfl
  have hSle : S.size ≤ 249 := by omega
  rw [← hS]
  have HS := Deep.mk hS
  have HSN := Deep.mk hSz
  have hS249 := hlab
  have t3 : decide ((249 : Int) < (S.size : Int)) = false := decide_eq_false (by omega)
  clear hl hs hsec hS hSz hlab
  go_enter Tryd.func28, Tryd.ntmps28
  go_upto_region 4 with (fail)
  obtain ⟨P, hP⟩ : ∃ P : List UInt8, P = [UInt8.ofNat (n / 256), UInt8.ofNat (n % 256), UInt8.ofNat (6 + S.size), 116, 108, 115, 49, 51, 32] := ⟨_, rfl⟩
  have hPc : #[Value.int .u8 ((n : Int) / 256), Value.int .u8 ((n : Int) % 256), Value.int .u8 (6 + (S.size : Int)), .int .u8 116, .int .u8 108, .int .u8 115, .int .u8 49, .int .u8 51, .int .u8 32] = (P.map cell8).toArray := by
    rw [hP]
    simp only [List.map_cons, List.map_nil]
    rw [← cell_nat (by omega : n / 256 < 256), ← cell_nat (by omega : n % 256 < 256), ← cell_nat (by omega : 6 + S.size < 256)]
    rfl
  rw [hPc]
  have hPl : P.length = 9 := by rw [hP]; rfl
  have HPP := Deep.mk hP
  have HPL := Deep.mk hPl
  clear hPc hP hPl
  obtain ⟨r, hr⟩ : ∃ r, r = w.heap.size := ⟨_, rfl⟩
  rw [← hr] at h2
  rw [← hr]
  have hq : (w.alloc (.cells (bRow sec) 22)).heap.size = r + 1 := by rw [hr]; simp
  generalize w.alloc (.cells (bRow sec) 22) = W at *
  rw [← hq]
  have hwr : w.heap.size ≤ r := by omega
  have hrW : r < W.heap.size := h2.lt
  have H2 := Lib.hid h2
  have HW0 := Lib.hid hW0
  have hwW : w.heap.size ≤ W.heap.size := hW0.size
  have hW1 : Below W.heap.size W (W.alloc (.cells (P.map cell8).toArray 5)) := (Below.refl _ _).alloc (Nat.le_refl _) _
  have HO1 := Lib.hid (own_of_wh (Wh.new W 5 (P.map cell8).toArray) W.heap.size 9 9 (Nat.le_refl _) (by rw [List.length_map]; exact HPL.out) (Nat.le_refl _) (by unfold maxLen; omega))
  have HB1 := Lib.hid hW1
  clear hr h2 hW0 hW1
  generalize W.alloc (.cells (P.map cell8).toArray 5) = w1 at *
  obtain ⟨B, hBq⟩ : ∃ B, B = W.heap.size := ⟨_, rfl⟩
  rw [← hBq] at HO1
  rw [← hBq]
  have hBw1 : B ≤ w1.heap.size := by rw [hBq]; exact HB1.out.size
  have HBQ := Lib.hid hBq
  clear hq hBq
  go_upto_region 5 with (at_builtin; refine Lib.wpList_append_own_string _ rfl (.tmp 37) (.tmp 38) 23 9 rfl B 5 i0 Tryd.underlying23 Tryd.underlying9 hi0 hz0 hz1 hz2 (.slice (some ⟨B, 0, none⟩) 9 9) 9 _ rfl HO1.out S rfl (by unfold maxLen; omega) (by omega) hBw1 ?_; intro v2 w2 hown2 hg2 hno2; have HO2 := Lib.hid hown2; have HG2 := Lib.hid hg2; clear hown2 hg2 hno2)
  obtain ⟨K, hK⟩ : ∃ K, K = 9 + S.size := ⟨_, rfl⟩
  rw [← hK] at HO2
  obtain ⟨A2, c2, rfl, h2a, h2b⟩ := own_form HO2.out
  have hKle : K ≤ 258 := by omega
  have hb2 : Below B W w2 := by
    have e := HBQ.out
    rw [e]
    exact HB1.out.grown HG2.out HB1.out.size (fun q hq => by have := (HO1.out.lt q hq).1; omega)
  have HKK := Deep.mk hK
  have hBw2 : B ≤ w2.heap.size := Nat.le_trans hBw1 HG2.out.size
  have HB2 := Lib.hid hb2
  have HO3 := Lib.hid (HO2.out.alloc (.cells #[Value.int .u8 (m : Int)] 5))
  have hsv2 : Sl w2 B A ctx := by
    have h := HSW.out
    rw [← HBQ.out] at h
    exact Sv.below h hb2
  have HSV2 := Lib.hid hsv2
  have HML : Deep ((ctx.map cell8).length = m) := ⟨by rw [List.length_map]; exact HL.out⟩
  clear hK hb2 hsv2 HO1 HB1 HG2 HO2
  go_upto_region 6 with (first
    | (at_builtin; refine wpList_append_sv _ rfl (.tmp 40) (.tmp 44) _ rfl B 5 i0 _ 1 Tryd.underlying23 hi0 hz0 hz1 hz2 rfl (.slice A2 K c2) K _ rfl HO3.out (w2.heap.size + 1) (some ⟨w2.heap.size, 0, none⟩) 1 1 [Value.int .u8 (m : Int)] rfl (sv_new w2 _ _) rfl (fun u hu => by simp at hu; subst hu; rfl) (by unfold maxLen; omega) (by omega) (by simp; omega) ?_; intro v3 w3 hown3 hg3 hno3; have HO4 := Lib.hid hown3; have HB3 := Lib.hid ((HB2.out.alloc hBw2 (.cells #[Value.int .u8 (m : Int)] 5)).grown hg3 (by simp; omega) (fun q hq => (HO3.out.lt q hq).1)); have hBw3 : B ≤ w3.heap.size := Nat.le_trans (by simp; omega) hg3.size; have HSV3 := Lib.hid (Sv.below HSV2.out ((((Below.refl w2.heap.size w2).alloc (Nat.le_refl _) (.cells #[Value.int .u8 (m : Int)] 5)).mono hBw2).grown hg3 (by simp; omega) (fun q hq => (HO3.out.lt q hq).1))); obtain ⟨A3, c3, rfl, h3a, h3b⟩ := own_form hown3; clear hown3 hg3 hno3)
    | (at_builtin; refine wpList_append_sv _ rfl (.tmp 45) (.tmp 46) _ rfl B 5 i0 _ 1 Tryd.underlying23 hi0 hz0 hz1 hz2 rfl (.slice A3 (K + 1) c3) (K + 1) _ rfl HO4.out B A m c (ctx.map cell8) rfl HSV3.out HML.out (cell8_one _) (by unfold maxLen; omega) (by omega) hBw3 ?_; intro v4 w4 hown4 hg4 hno4; have HO5 := Lib.hid hown4; have HG4 := Lib.hid hg4; clear hown4 hg4 hno4))
  obtain ⟨A4, c4, rfl, h4a, h4b⟩ := own_form HO5.out
  have hb4 : Below B W w4 := HB3.out.grown HG4.out hBw3 (fun q hq => (HO4.out.lt q hq).1)
  obtain ⟨I, hI⟩ : ∃ I, I = P ++ (lab ++ (UInt8.ofNat m :: ctx)) := ⟨_, rfl⟩
  have hIm : List.take 9 (List.map cell8 P) ++ Lib.strCells S ++ [Value.int IntKind.u8 (m : Int)] ++ ctx.map cell8 = I.map cell8 := by
    rw [List.take_of_length_le (by rw [List.length_map, HPL.out]; omega), HS.out, strCells_strB, cell_nat (by omega : m < 256), hI]
    simp
  have hIl : I.length = K + 1 + m := by
    have e1 := HPL.out
    have e3 := HSN.out
    have e4 := HKK.out
    have e5 := HL.out
    rw [hI]
    simp
    omega
  have ho5 := HO5.out
  rw [hIm] at ho5
  have hsI : Sl w4 w4.heap.size A4 I := Sv.of_own ho5
  have hr4 : Wh w4 r 22 (bRow sec) := H2.out.below hb4 (by rw [HBQ.out]; exact hrW)
  have hbf : Below w.heap.size w w4 := HW0.out.trans (hb4.mono (by rw [HBQ.out]; exact hwW))
  have HIE : Deep (I = labK lab ctx n) := ⟨by
    rw [hI, HPP.out, HSN.out, ← HL.out, ofNat_mod]
    rfl⟩
  have HSI := Lib.hid hsI
  have HR4 := Lib.hid hr4
  have HBF := Lib.hid hbf
  have HIL := Deep.mk hIl
  have hww4 : w.heap.size ≤ w4.heap.size := hbf.size
  clear hb4 hIm hIl ho5 hsI hr4 hbf HO5 HG4 HB3 HO4 HSV3 HSV2 HB2 HO3 hI HML HPP HPL
  have hei : expI kW sec I (n : Int) = expK kW sec I n := by rw [expI, if_neg (by omega), Int.toNat_natCast]
  have HEI := Deep.mk hei
  clear hei
  go_wp2_with (refine wpList_load_row rfl 22 (.tmp 4) rfl r rfl _ (bRow sec) _ _ HR4.out Tryd.underlying22 rfl (info_bRow HSEC.out) ?_)
  refine (rexpand_young sec I A4 (K + 1 + m) c4 (n : Int) w4 HSEC.out HIL.out h4a h4b HSI.out (by omega)).mono ?_
  rintro e w5 ⟨A5, c5, rfl, h5a, h5b, hs5, hb5⟩
  rw [HEI.out] at h5a hs5
  rw [HEI.out]
  rw [HIE.out] at h5a hs5
  rw [HIE.out]
  have HS6 := Lib.hid (Sy.mono hs5 hww4)
  have HB6 := Lib.hid (HBF.out.trans (hb5.mono hww4))
  obtain ⟨R, hR⟩ : ∃ R, R = expK kW sec (labK lab ctx n) n := ⟨_, rfl⟩
  rw [← hR] at h5a HS6
  rw [← hR]
  have HRE := Deep.mk hR
  clear hs5 hb5 hR HIE HEI
  go_wp2
  go_ret
  refine ⟨A5, c5, ?_, ?_, h5b, ?_, HB6.out⟩
  · rw [← HRE.out]; rfl
  · rw [← HRE.out]; exact h5a
  · rw [← HRE.out]; exact HS6.out

theorem rlabel_young (sec lab ctx : List UInt8) (A : Option Addr) (m c : Nat) (n : Int) (w : World) (hsec : sec.length = 32)
    (hl : ctx.length = m) (hlc : m ≤ c) (hcm : c ≤ maxLen) (hs : Sl w w.heap.size A ctx) (hm : m ≤ 1000000) (hlab : lab.length ≤ 1000000) :
    Calls Tryd.prog 28 #[.agg (bRow sec), .string (strB lab), .slice A m c, .int .i64 n] w (GaveY w (labI kW sec lab ctx n)) := by
  by_cases h : n < 1 ∨ 8160 < n ∨ 249 < lab.length ∨ 255 < ctx.length
  · rw [labI, if_pos h]
    exact rlabel_none sec _ A m c n w hsec hm hlab (by rw [← hl]; exact h)
  · rw [labI, if_neg h]
    obtain ⟨k, rfl⟩ := Int.eq_ofNat_of_zero_le (by omega : 0 ≤ n)
    rw [Int.toNat_natCast]
    exact rlabel_in sec lab ctx A m c k w hsec hl hlc hcm hs (by omega) (by omega) (by omega) (by omega)
theorem rlabel_any (sec lab ctx : List UInt8) (A : Option Addr) (m c : Nat) (n : Int) (w : World) (hsec : sec.length = 32)
    (hl : ctx.length = m) (hlc : m ≤ c) (hcm : c ≤ maxLen) (hs : Sl w w.heap.size A ctx) (hm : m ≤ 1000000) (hlab : lab.length ≤ 1000000) :
    Calls Tryd.prog 28 #[.agg (bRow sec), .string (strB lab), .slice A m c, .int .i64 n] w (GaveS w (labI kW sec lab ctx n)) :=
  (rlabel_young sec lab ctx A m c n w hsec hl hlc hcm hs hm hlab).mono fun _ _ h => h.to
end Go.Proofs.YtblclinfcdalaaaDoor
