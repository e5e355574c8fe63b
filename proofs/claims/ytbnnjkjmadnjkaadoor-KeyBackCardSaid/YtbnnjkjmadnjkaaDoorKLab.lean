/-
  kdf.Label.
-/
import Derived.Lib.AppendStr
import Derived.Test.YtbnnjkjmadnjkaaDoorKExp
namespace Go.Proofs.YtbnnjkjmadnjkaaDoor
open Go.RowKit
set_option linter.unusedVariables false

def tls13 : List UInt8 := [116, 108, 115, 49, 51, 32]
theorem name_app (l : List UInt8) : ({ data := #[116, 108, 115, 49, 51, 32] } : ByteArray) ++ strB l = strB (tls13 ++ l) := by
  apply ByteArray.ext
  simp [strB, tls13, ByteArray.data_append]
theorem cell_of {z : Int} (h1 : 0 ≤ z) (h2 : z < 256) : Value.int .u8 z = cell8 (UInt8.ofNat z.toNat) := by
  unfold cell8
  rw [UInt8.toNat_ofNat', Nat.mod_eq_of_lt (by omega), Int.toNat_of_nonneg h1]
theorem cell_nat {k : Nat} (h : k < 256) : Value.int .u8 (k : Int) = cell8 (UInt8.ofNat k) := by
  unfold cell8
  rw [UInt8.toNat_ofNat', Nat.mod_eq_of_lt (by omega)]
theorem strCells_strB (l : List UInt8) : Lib.strCells (strB l) = l.map cell8 := rfl

theorem ofNat_mod (k : Nat) : UInt8.ofNat (k % 256) = UInt8.ofNat k := by
  apply UInt8.toNat_inj.1
  rw [UInt8.toNat_ofNat', UInt8.toNat_ofNat']
  omega
theorem exp_lab (ks : List W32) (sec lab ctx : List UInt8) (n : Int) (h1 : lab.length ≤ 249) (h2 : ctx.length ≤ 255) :
    expI ks sec ([UInt8.ofNat (n / 256 % 256).toNat, UInt8.ofNat (n % 256).toNat, UInt8.ofNat (6 + lab.length)] ++ ((tls13 ++ lab) ++ (UInt8.ofNat ctx.length :: ctx))) n = labI ks sec lab ctx n := by
  by_cases h : n < 1 ∨ 8160 < n
  · rw [expI, if_pos h, labI, if_pos (by omega)]
  · rw [expI, if_neg h, labI, if_neg (by omega)]
    obtain ⟨k, rfl⟩ := Int.eq_ofNat_of_zero_le (by omega : 0 ≤ n)
    rw [show ((k : Int) / 256 % 256).toNat = k / 256 % 256 by omega, show ((k : Int) % 256).toNat = k % 256 by omega, ofNat_mod, ofNat_mod, Int.toNat_natCast]
    rfl

set_option maxRecDepth 100000 in
set_option maxHeartbeats 1600000 in
theorem label_in (ks : List W32) (sec lab ctx : List UInt8) (A : Option Addr) (m c : Nat) (n : Int) (w : World) (hks : ks.length = 64) (hK : KT w ks) (hKb : 0 < w.heap.size) (hsec : sec.length = 32)
    (hl : ctx.length = m) (hlc : m ≤ c) (hcm : c ≤ maxLen) (hs : Sl w w.heap.size A ctx) (hm : m ≤ 255) (hlab : lab.length ≤ 249) :
    Calls Tryd.prog 51 #[.agg (bRow sec), .string (strB lab), .slice A m c, .int .i64 n] w (GaveB w (labI ks sec lab ctx n)) := by
  obtain ⟨i0, hi0, hz0, hz1, hz2⟩ := info_parts info8
  have HKS := Lib.hid hks
  have HSEC := Deep.mk hsec
  have HL := Deep.mk hl
  have HLC := Lib.hid hlc
  have HCM := Lib.hid hcm
  have HSZ : (bRow sec).size = 32 := by rw [bRow_size, hsec]
  have t2 : decide ((255 : Int) < (m : Int)) = false := decide_eq_false (by omega)
  have hW0 : Below w.heap.size w (w.alloc (.cells (bRow sec) 22)) := (Below.refl _ _).alloc (Nat.le_refl _) _
  have h2 : Wh (w.alloc (.cells (bRow sec) 22)) w.heap.size 22 (bRow sec) := Wh.new _ _ _
  have HKW := Lib.hid (hK.below hKb hW0)
  have HSW := Lib.hid ((Sv.below hs hW0).keep hW0.size (fun _ _ => rfl))
  obtain ⟨S, hS⟩ : ∃ S, S = strB lab := ⟨_, rfl⟩
  have hSz : S.size = lab.length := by rw [hS]; rfl
  have hSle : S.size ≤ 249 := by omega
  rw [← hS]
  have HS := Deep.mk hS
  have HSN := Deep.mk hSz
  have hS249 := hlab
  clear hks hK hl hs hsec hS hSz hlab
  go_enter Tryd.func51, Tryd.ntmps51
  go_upto_region 5 with (fail)
  obtain ⟨N, hN⟩ : ∃ N, N = ({ data := #[116, 108, 115, 49, 51, 32] } : ByteArray) ++ S := ⟨_, rfl⟩
  rw [← hN]
  have HNB : Deep (N = strB (tls13 ++ lab)) := ⟨by rw [hN, HS.out]; exact name_app lab⟩
  have hNs : N.size = 6 + S.size := by rw [HNB.out, HSN.out]; simp [strB, tls13, ByteArray.size]; omega
  have HNS := Deep.mk hNs
  have hNle : N.size ≤ 255 := by omega
  clear hN hNs
  obtain ⟨P, hP⟩ : ∃ P : List UInt8, P = [UInt8.ofNat (n / 256 % 256).toNat, UInt8.ofNat (n % 256).toNat, UInt8.ofNat (6 + S.size)] := ⟨_, rfl⟩
  have hPc : #[Value.int .u8 (n / 256 % 256), Value.int .u8 (n % 256), Value.int .u8 (6 + (S.size : Int))] = (P.map cell8).toArray := by
    rw [hP, List.map_cons, List.map_cons, List.map_cons, List.map_nil, cell_of (by omega) (by omega), cell_of (by omega) (by omega), ← cell_nat (by omega : 6 + S.size < 256)]
    rfl
  rw [hPc]
  have hPl : P.length = 3 := by rw [hP]; rfl
  have HPP := Deep.mk hP
  have HPL := Deep.mk hPl
  clear hPc hP hPl
  obtain ⟨r, hr⟩ : ∃ r, r = w.heap.size := ⟨_, rfl⟩
  rw [← hr] at h2
  rw [← hr]
  have hq : (w.alloc (.cells (bRow sec) 22)).heap.size = r + 1 := by rw [hr]; simp
  generalize w.alloc (.cells (bRow sec) 22) = W at *
  rw [← hq]
  have hwr : w.heap.size ≤ r := by omega
  have hrW : r < W.heap.size := h2.lt
  have HR := Lib.hid hr
  have H2 := Lib.hid h2
  have HW0 := Lib.hid hW0
  have hKbW : 0 < W.heap.size := Nat.lt_of_lt_of_le hKb hW0.size
  have hwW : w.heap.size ≤ W.heap.size := hW0.size
  have hW1 : Below W.heap.size W (W.alloc (.cells (P.map cell8).toArray 5)) := (Below.refl _ _).alloc (Nat.le_refl _) _
  have HO1 := Lib.hid (own_of_wh (Wh.new W 5 (P.map cell8).toArray) W.heap.size 3 3 (Nat.le_refl _) (by rw [List.length_map]; exact HPL.out) (Nat.le_refl _) (by unfold maxLen; omega))
  have HB1 := Lib.hid hW1
  clear hr h2 hW0 hW1
  generalize W.alloc (.cells (P.map cell8).toArray 5) = w1 at *
  obtain ⟨B, hBq⟩ : ∃ B, B = W.heap.size := ⟨_, rfl⟩
  rw [← hBq] at HO1
  rw [← hBq]
  have hBw1 : B ≤ w1.heap.size := by rw [hBq]; exact HB1.out.size
  have HBQ := Lib.hid hBq
  clear hq hBq
  go_upto_region 6 with (at_builtin; refine Lib.wpList_append_own_string _ rfl (.tmp 30) (.tmp 31) 28 9 rfl B 5 i0 Tryd.underlying28 Tryd.underlying9 hi0 hz0 hz1 hz2 (.slice (some ⟨B, 0, none⟩) 3 3) 3 _ rfl HO1.out N rfl (by unfold maxLen; omega) (by omega) hBw1 ?_; intro v2 w2 hown2 hg2 hno2; have HO2 := Lib.hid hown2; have HG2 := Lib.hid hg2; clear hown2 hg2 hno2)
  obtain ⟨K, hK⟩ : ∃ K, K = 3 + N.size := ⟨_, rfl⟩
  rw [← hK] at HO2
  obtain ⟨A2, c2, rfl, h2a, h2b⟩ := own_form HO2.out
  have hKle : K ≤ 258 := by omega
  have hb2 : Below B W w2 := by
    have e := HBQ.out
    rw [e]
    exact HB1.out.grown HG2.out HB1.out.size (fun q hq => by have := (HO1.out.lt q hq).1; omega)
  have HKK := Deep.mk hK
  have hBw2 : B ≤ w2.heap.size := Nat.le_trans hBw1 HG2.out.size
  have HB2 := Lib.hid hb2
  have HO3 := Lib.hid (HO2.out.alloc (.cells #[Value.int .u8 (m : Int)] 5))
  clear hK hb2 HO1 HB1 HG2 HO2
  go_upto_region 7 with (at_builtin; refine wpList_append_sv _ rfl (.tmp 33) (.tmp 37) _ rfl B 5 i0 _ 1 Tryd.underlying28 hi0 hz0 hz1 hz2 rfl (.slice A2 K c2) K _ rfl HO3.out (w2.heap.size + 1) (some ⟨w2.heap.size, 0, none⟩) 1 1 [Value.int .u8 (m : Int)] rfl (sv_new w2 _ _) rfl (fun u hu => by simp at hu; subst hu; rfl) (by unfold maxLen; omega) (by omega) (by simp; omega) ?_; intro v3 w3 hown3 hg3 hno3; have HO4 := Lib.hid hown3; have HG3 := Lib.hid hg3; clear hown3 hg3 hno3)
  obtain ⟨A3, c3, rfl, h3a, h3b⟩ := own_form HO4.out
  have hb3 : Below B W w3 := (HB2.out.alloc hBw2 _).grown HG3.out (by simp; omega) (fun q hq => (HO3.out.lt q hq).1)
  have hsv3 : Sl w3 B A ctx := by
    have h := HSW.out
    rw [← HBQ.out] at h
    exact Sv.below h hb3
  have HSV3 := Lib.hid hsv3
  have HB3 := Lib.hid hb3
  have hBw3 : B ≤ w3.heap.size := by have := hb3.size; have := HBQ.out; omega
  clear hb3 hsv3 HB2 HO3 HG3
  have HML : Deep ((ctx.map cell8).length = m) := ⟨by rw [List.length_map]; exact HL.out⟩
  go_upto_region 8 with (at_builtin; refine wpList_append_sv _ rfl (.tmp 39) (.tmp 40) _ rfl B 5 i0 _ 1 Tryd.underlying28 hi0 hz0 hz1 hz2 rfl (.slice A3 (K + 1) c3) (K + 1) _ rfl HO4.out B A m c (ctx.map cell8) rfl HSV3.out HML.out (cell8_one _) (by unfold maxLen; omega) (by omega) hBw3 ?_; intro v4 w4 hown4 hg4 hno4; have HO5 := Lib.hid hown4; have HG4 := Lib.hid hg4; clear hown4 hg4 hno4)
  obtain ⟨A4, c4, rfl, h4a, h4b⟩ := own_form HO5.out
  have hb4 : Below B W w4 := HB3.out.grown HG4.out hBw3 (fun q hq => (HO4.out.lt q hq).1)
  obtain ⟨I, hI⟩ : ∃ I, I = P ++ ((tls13 ++ lab) ++ (UInt8.ofNat m :: ctx)) := ⟨_, rfl⟩
  have hIm : List.take 3 (List.map cell8 P) ++ Lib.strCells N ++ [Value.int IntKind.u8 (m : Int)] ++ ctx.map cell8 = I.map cell8 := by
    rw [List.take_of_length_le (by rw [List.length_map, HPL.out]; omega), HNB.out, strCells_strB, cell_nat (by omega : m < 256), hI]
    simp
  have hIl : I.length = K + 1 + m := by
    have e1 := HPL.out
    have e2 := HNS.out
    have e3 := HSN.out
    have e4 := HKK.out
    have e5 := HL.out
    rw [hI]
    simp [tls13]
    omega
  have ho5 := HO5.out
  rw [hIm] at ho5
  have hsI : Sl w4 w4.heap.size A4 I := Sv.of_own ho5
  have hr4 : Wh w4 r 22 (bRow sec) := H2.out.below hb4 (by rw [HBQ.out]; exact hrW)
  have hK4 : KT w4 ks := HKW.out.below hKbW (by have h := hb4; rwa [HBQ.out] at h)
  have hBw4 : B ≤ w4.heap.size := Nat.le_trans hBw3 HG4.out.size
  have hKb4 : 0 < w4.heap.size := Nat.lt_of_lt_of_le (by rw [HBQ.out]; exact hKbW) hBw4
  have hbf : Below w.heap.size w w4 := HW0.out.trans (hb4.mono (by rw [HBQ.out]; exact hwW))
  have HIE : Deep (expI ks sec I n = labI ks sec lab ctx n) := ⟨by
    rw [hI, HPP.out, HSN.out, ← HL.out]
    exact exp_lab ks sec lab ctx n hS249 (by rw [HL.out]; exact hm)⟩
  have HSI := Lib.hid hsI
  have HR4 := Lib.hid hr4
  have HK4 := Lib.hid hK4
  have HBF := Lib.hid hbf
  have HIL := Deep.mk hIl
  clear hb4 hIm hIl ho5 hsI hr4 hK4 hbf HO5 HG4 HB3 HO4 HSV3 hI HML HPP HPL HNB HNS
  go_wp2_with (refine wpList_load_row rfl 22 (.tmp 4) rfl r rfl _ (bRow sec) _ _ HR4.out Tryd.underlying22 rfl (info_bRow HSEC.out) ?_)
  refine (expand_any ks sec I A4 (K + 1 + m) c4 n w4 HKS.out HK4.out hKb4 HSEC.out HIL.out h4a h4b HSI.out (by omega)).mono ?_
  rintro e w5 ⟨A5, c5, rfl, h5a, h5b, hown5, hb5⟩
  rw [HIE.out] at h5a hown5
  rw [HIE.out]
  have HO6 := Lib.hid (own_le hown5 (Nat.le_trans HBF.out.size (Nat.le_refl _)))
  have HB6 := Lib.hid (HBF.out.trans (hb5.mono HBF.out.size))
  obtain ⟨R, hR⟩ : ∃ R, R = labI ks sec lab ctx n := ⟨_, rfl⟩
  rw [← hR] at h5a HO6
  rw [← hR]
  have HRE := Deep.mk hR
  clear hown5 hb5 hR HIE
  go_wp2
  go_ret
  refine ⟨A5, c5, ?_, ?_, h5b, ?_, HB6.out⟩
  · rw [← HRE.out]; rfl
  · rw [← HRE.out]; exact h5a
  · rw [← HRE.out]; exact HO6.out

set_option maxRecDepth 100000 in
set_option maxHeartbeats 400000 in
theorem label_out (ks : List W32) (sec lab ctx : List UInt8) (A : Option Addr) (m c : Nat) (n : Int) (w : World) (hsec : sec.length = 32) (hl : ctx.length = m) (hm : m ≤ 1000000) (hb : lab.length ≤ 1000000) (ho : 249 < lab.length ∨ 255 < m) :
    Calls Tryd.prog 51 #[.agg (bRow sec), .string (strB lab), .slice A m c, .int .i64 n] w (GaveB w (labI ks sec lab ctx n)) := by
  have hI : labI ks sec lab ctx n = [] := if_pos (.inr (.inr (by rw [hl]; exact ho)))
  rw [hI]
  obtain ⟨S, hS⟩ : ∃ S, S = strB lab := ⟨_, rfl⟩
  have hSz : S.size = lab.length := by rw [hS]; rfl
  rw [← hS]
  have hbl : Below w.heap.size w (w.alloc (.cells (bRow sec) 22)) := (Below.refl _ _).alloc (Nat.le_refl _) _
  have HSZ : (bRow sec).size = 32 := by rw [bRow_size, hsec]
  have hq : (∃ _ : decide ((249 : Int) < (S.size : Int)) = true, True) ∨ (∃ _ : decide ((249 : Int) < (S.size : Int)) = false, ∃ _ : decide ((255 : Int) < (m : Int)) = true, True) := by
    by_cases a1 : 249 < S.size
    · exact .inl ⟨decide_eq_true (by omega), trivial⟩
    · exact .inr ⟨decide_eq_false (by omega), decide_eq_true (by omega), trivial⟩
  clear ho hI hS hSz hl
  rcases hq with ⟨h1, _⟩ | ⟨h1, h2, _⟩
  all_goals
    go_enter Tryd.func51, Tryd.ntmps51
    go_wp2
    go_ret
    exact ⟨none, 0, rfl, Nat.le_refl _, Nat.zero_le _, by simpa using World.ownsRow_nil _ _ _ 1, hbl⟩

theorem label_any (ks : List W32) (sec lab ctx : List UInt8) (A : Option Addr) (m c : Nat) (n : Int) (w : World) (hks : ks.length = 64) (hK : KT w ks) (hKb : 0 < w.heap.size) (hsec : sec.length = 32)
    (hl : ctx.length = m) (hlc : m ≤ c) (hcm : c ≤ maxLen) (hs : Sl w w.heap.size A ctx) (hm : m ≤ 1000000) (hlab : lab.length ≤ 1000000) :
    Calls Tryd.prog 51 #[.agg (bRow sec), .string (strB lab), .slice A m c, .int .i64 n] w (GaveB w (labI ks sec lab ctx n)) := by
  by_cases h : 249 < lab.length ∨ 255 < m
  · exact label_out ks sec lab ctx A m c n w hsec hl hm hlab h
  · exact label_in ks sec lab ctx A m c n w hks hK hKb hsec hl hlc hcm hs (by omega) (by omega)
end Go.Proofs.YtbnnjkjmadnjkaaDoor
