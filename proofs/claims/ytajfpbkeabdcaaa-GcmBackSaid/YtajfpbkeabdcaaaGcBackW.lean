/-
  hostlerlaw09.GcmBack: the way on which all is sealed and opened. Printed by tools/gen_gcbackw.py.
-/
import Derived.Test.YtajfpbkeabdcaaaGcBack
namespace Go.Proofs.Ytajfpbkeabdcaaa
open Go.RowKit
set_option linter.unusedVariables false

theorem tdiv8 (n : Nat) : (n : Int).tdiv 8 = ((n / 8 : Nat) : Int) := by rw [Int.tdiv_eq_ediv_of_nonneg (by omega)]; omega
theorem tmod8 (n : Nat) : (n : Int).tmod 8 = ((n % 8 : Nat) : Int) := by rw [Int.tmod_eq_emod_of_nonneg (by omega)]; omega
theorem tmodL (n k : Nat) : (n : Int).tmod (k : Int) = ((n % k : Nat) : Int) := by rw [Int.tmod_eq_emod_of_nonneg (by omega)]; rfl
theorem pow_byte (t : Nat) (ht : t < 8) : IntKind.u8.wrap (2 ^ min t 8) = ((UInt8.ofNat (2 ^ t)).toNat : Int) := by
  have : ∀ t : Nat, t < 8 → IntKind.u8.wrap (2 ^ min t 8) = ((UInt8.ofNat (2 ^ t)).toNat : Int) := by decide
  exact this t ht

set_option maxRecDepth 100000 in
set_option maxHeartbeats 4000000 in
theorem back_main (key nn l m : List UInt8) (A B : Option Addr) (c d n : Nat) (w : World) (hk : key.length = 16) (hn : nn.length = 12) (hs : Sl w w.heap.size A l) (hlc : l.length ≤ c) (hcm : c ≤ maxLen) (hl : l.length ≤ 600)
    (ht : Sl w w.heap.size B m) (hmd : m.length ≤ d) (hdm : d ≤ maxLen) (hm : m.length ≤ 600) (hn63 : n ≤ 9223372036854775807) (hz : seL (ksL key) (List.replicate 16 0) ≠ List.replicate 16 0) :
    Calls Try.prog 4 #[.agg (aRow key), .agg (aRow nn), .slice A l.length c, .slice B m.length d, .int .i64 (n : Int)] w fun e w' => e = .returned (.bool true) ∧ Below w.heap.size w w' := by
  obtain ⟨i0, hi0, hz0, hz1, hz2⟩ := info_parts info8
  have HKL := Deep.mk hk
  have HNL := Deep.mk hn
  have HZ := Deep.mk hz
  have HS := Lib.hid hs
  have HT := Lib.hid ht
  have HCM := Lib.hid hcm
  have HDM := Lib.hid hdm
  have HLC := Lib.hid hlc
  have HMD := Lib.hid hmd
  clear hk hn hz hs ht hcm hdm hlc hmd
  go_enter Try.func4, Try.ntmps4
  go_wp2_with fail
  obtain ⟨hbe, h1, h2⟩ := made2 w (aRow key) (aRow nn) 22 23
  generalize (w.alloc (.cells (aRow key) 22)).alloc (.cells (aRow nn) 23) = W at *
  obtain ⟨ka, hka⟩ : ∃ a, a = w.heap.size := ⟨_, rfl⟩
  obtain ⟨na, hna⟩ : ∃ a, a = w.heap.size + 1 := ⟨_, rfl⟩
  rw [← hka] at h1
  rw [← hna] at h2
  rw [← hna, ← hka]
  refine (known_any W).mono ?_
  rintro e w1 ⟨rfl, hb1⟩
  have HB := Lib.hid (hbe.trans (hb1.mono hbe.size))
  have HKA := Lib.hid (h1.below hb1 h1.lt)
  have HNA := Lib.hid (h2.below hb1 h2.lt)
  have hd1 : decide ((l.length : Int) > 600) = false := by rw [decide_eq_false_iff_not]; omega
  have hd2 : decide ((m.length : Int) > 600) = false := by rw [decide_eq_false_iff_not]; omega
  have hd3 : decide ((n : Int) < 0) = false := by rw [decide_eq_false_iff_not]; omega
  clear hbe h1 h2 hb1 hka hna
  go_wp2_with (first | (refine wpList_load_blkG (.tmp 5) rfl rfl ka 0 rfl key HKL.out (Wh.range HKA.out) ?_))
  refine (new_any key w1 HKL.out).mono ?_
  rintro e w2 ⟨g, rfl, hge, hgw, hb2⟩
  have HB2 := Lib.hid (HB.out.trans (hb2.mono HB.out.size))
  have HKA2 := Lib.hid (HKA.out.below hb2 HKA.out.lt)
  have HNA2 := Lib.hid (HNA.out.below hb2 HNA.out.lt)
  have HGW := Lib.hid hgw
  clear hge hgw hb2 HB HKA HNA
  obtain ⟨Z, hZ⟩ : ∃ Z : List UInt8, Z = List.replicate 16 0 := ⟨_, rfl⟩
  obtain ⟨Y, hY⟩ : ∃ Y : List UInt8, Y = seL (ksL key) Z := ⟨_, rfl⟩
  have HZL : Deep (Z.length = 16) := ⟨by rw [hZ]; rfl⟩
  have HYL : Deep (Y.length = 16) := ⟨by rw [hY]; exact seL_len _ _⟩
  have hYZ : ¬ Y = Z := by rw [hY, hZ]; exact HZ.out
  have HB0 : Deep (Try.prog.built 22 [] = some (aRow Z)) := ⟨by rw [hZ]; exact built_blk0⟩
  have hse := fun w' h => seal_any g (ksL key) Z w' (ksL_b HKL.out) h HZL.out
  rw [← hY] at hse
  have HSE := Lib.hid hse
  have heq := eq_blks Y Z HYL.out HZL.out
  rw [decide_eq_false hYZ] at heq
  have HEQ := Lib.hid heq
  clear hse hY hZ heq hYZ
  go_wp2_with (first | (refine wpList_built0G 22 rfl rfl (aRow Z) HB0.out ?_))
  refine (HSE.out w2 HGW.out).mono ?_
  rintro e w3 ⟨rfl, hb3⟩
  have HB3 := Lib.hid (HB2.out.trans (hb3.mono HB2.out.size))
  have HKA3 := Lib.hid (HKA2.out.below hb3 HKA2.out.lt)
  have HNA3 := Lib.hid (HNA2.out.below hb3 HNA2.out.lt)
  have heq := HEQ.out
  clear hb3 HB2 HKA2 HNA2 HGW HSE HEQ
  go_wp2_with (first | (refine wpList_built0G 22 rfl rfl (aRow Z) HB0.out ?_))
  clear heq HB0 HZL HYL
  have hW0 : Below w.heap.size w w3.drew := HB3.out.drew
  have hKA : Wh w3.drew ka 22 (aRow key) := HKA3.out
  have hNA : Wh w3.drew na 23 (aRow nn) := HNA3.out
  have hSA : Sl w3.drew w.heap.size A l := HS.out.below hW0
  have hSB : Sl w3.drew w.heap.size B m := HT.out.below hW0
  clear HB3 HKA3 HNA3
  refine wp_region_held_drew (S := fun w' => SinceM w3.drew w') (by kernel_rfl) (SinceM.self _) (fun _ => ?_)
  generalize w3.drew = w0 at *
  refine wpAnyH_take (i := 0) (v := .slice B m.length d) (List.getElem?_toArray.trans rfl) (by kernel_rfl) (by kernel_rfl) (by kernel_rfl) (fun _ _ _ h => h) (.inl ⟨rfl, fun w' hS => rfl⟩) (SinceM.self _) ?_
  refine act_normM (by simp only [Act.put, List.setIfInBounds_toArray, List.set_cons_zero, List.set_cons_succ]; rfl) ?_
  refine wpAnyH_take (i := 1) (v := .string (strB m)) (List.getElem?_toArray.trans rfl) (by kernel_rfl) (by kernel_rfl) (by kernel_rfl) (fun _ _ _ h => h) (yields_strM (by rfl) 24 9 5 (.tmp 42) rfl Try.underlying24 Try.underlying5 Try.underlying9 w.heap.size B m.length d m rfl rfl (fun w' hS => SinceM.sl hS hSB hW0.size)) (SinceM.self _) ?_
  refine act_normM (by simp only [Act.put, List.setIfInBounds_toArray, List.set_cons_zero, List.set_cons_succ]; rfl) ?_
  refine wpAnyH_take (i := 2) (v := .slice A l.length c) (List.getElem?_toArray.trans rfl) (by kernel_rfl) (by kernel_rfl) (by kernel_rfl) (fun _ _ _ h => h) (.inl ⟨rfl, fun w' hS => rfl⟩) (SinceM.self _) ?_
  refine act_normM (by simp only [Act.put, List.setIfInBounds_toArray, List.set_cons_zero, List.set_cons_succ]; rfl) ?_
  refine wpAnyH_take (i := 3) (v := .string (strB l)) (List.getElem?_toArray.trans rfl) (by kernel_rfl) (by kernel_rfl) (by kernel_rfl) (fun _ _ _ h => h) (yields_strM (by rfl) 24 9 5 (.tmp 44) rfl Try.underlying24 Try.underlying5 Try.underlying9 w.heap.size A l.length c l rfl rfl (fun w' hS => SinceM.sl hS hSA hW0.size)) (SinceM.self _) ?_
  refine act_normM (by simp only [Act.put, List.setIfInBounds_toArray, List.set_cons_zero, List.set_cons_succ]; rfl) ?_
  refine wpAnyH_take (i := 4) (v := .string (strB m)) (List.getElem?_toArray.trans rfl) (by kernel_rfl) (by kernel_rfl) (by kernel_rfl) (fun _ _ _ h => h) (.inl ⟨rfl, fun w' hS => rfl⟩) (SinceM.self _) ?_
  refine act_normM (by simp only [Act.put, List.setIfInBounds_toArray, List.set_cons_zero, List.set_cons_succ]; rfl) ?_
  refine wpAnyH_take (i := 5) (v := .string (strB l)) (List.getElem?_toArray.trans rfl) (by kernel_rfl) (by kernel_rfl) (by kernel_rfl) (fun _ _ _ h => h) (.inl ⟨rfl, fun w' hS => rfl⟩) (SinceM.self _) ?_
  refine act_normM (by simp only [Act.put, List.setIfInBounds_toArray, List.set_cons_zero, List.set_cons_succ]; rfl) ?_
  refine wpAnyH_done (by kernel_rfl) ?_ _
  have HB4 := Lib.hid hW0
  have HKA4 := Lib.hid hKA
  have HNA4 := Lib.hid hNA
  clear hW0 hKA hNA hSA hSB
  obtain ⟨X, hX⟩ : ∃ X, X = sealK key nn l m := ⟨_, rfl⟩
  have HX := Deep.mk hX
  have hXl : X.length = m.length + 16 := by rw [hX]; exact sealK_len _ _ _ _
  have hseal := fun w' (hb : Below w.heap.size w w') => gcseal_any key nn l m A B c d w' HKL.out HNL.out ((HS.out.below hb).keep hb.size (fun _ _ => rfl)) HLC.out HCM.out (by omega) ((HT.out.below hb).keep hb.size (fun _ _ => rfl)) HMD.out HDM.out (by omega)
  rw [← hX] at hseal
  have HXL := Deep.mk hXl
  have HSEAL := Lib.hid (fun w' hb => (hseal w' hb).mono fun _ _ h => gave_n hXl h)
  clear hX hXl hseal
  go_wp2_with (first
    | (refine wpList_load_blk rfl (.tmp 5) rfl ka 0 rfl key HKL.out (Wh.range HKA4.out) ?_)
    | (refine wpList_load_mid rfl 23 (.tmp 6) rfl na 0 rfl (nn.map cell8) _ (Wh.range HNA4.out) Try.underlying23 rfl (by rw [List.length_map, HNL.out]; exact info_n12) ?_))
  refine (HSEAL.out w0 HB4.out).mono ?_
  rintro e w5 ⟨A5, c5, rfl, h51, h52, ho5, hb5⟩
  have HB5 := Lib.hid (HB4.out.trans (hb5.mono HB4.out.size))
  have HKA5 := Lib.hid (HKA4.out.below hb5 HKA4.out.lt)
  have HNA5 := Lib.hid (HNA4.out.below hb5 HNA4.out.lt)
  have HX5 : Hid (Sl w5 w5.heap.size A5 X) := Lib.hid (Sv.of_own ho5)
  have H51 := Lib.hid h51
  have H52 := Lib.hid h52
  clear hb5 ho5 HB4 HKA4 HNA4 HSEAL h51 h52
  have hopen := gcopen_any key nn l X A A5 c c5 w5 HKL.out HNL.out ((HS.out.below HB5.out).keep HB5.out.size (fun _ _ => rfl)) HLC.out HCM.out (by omega) HX5.out (by rw [HXL.out]; exact H51.out) H52.out (by rw [HXL.out]; omega)
  rw [HXL.out] at hopen
  have HOPEN := Lib.hid (hopen.mono fun _ _ h => open_y (t := m) (n := m.length) (by rw [HX.out]; exact seal_tx _ _ l _) rfl (by rw [HX.out]; exact seal_ok _ _ _ _) h)
  clear hopen
  go_wp2_with (first
    | (refine wpList_load_blk rfl (.tmp 5) rfl ka 0 rfl key HKL.out (Wh.range HKA5.out) ?_)
    | (refine wpList_load_mid rfl 23 (.tmp 6) rfl na 0 rfl (nn.map cell8) _ (Wh.range HNA5.out) Try.underlying23 rfl (by rw [List.length_map, HNL.out]; exact info_n12) ?_))
  refine HOPEN.out.mono ?_
  rintro e w6 ⟨A6, c6, rfl, h61, h62, ho6, hb6⟩
  have HB6 := Lib.hid (HB5.out.trans (hb6.mono HB5.out.size))
  have HKA6 := Lib.hid (HKA5.out.below hb6 HKA5.out.lt)
  have HNA6 := Lib.hid (HNA5.out.below hb6 HNA5.out.lt)
  have HX6 : Hid (Sl w6 w6.heap.size A5 X) := Lib.hid ((HX5.out.below hb6).keep hb6.size (fun _ _ => rfl))
  have hT6 : Sl w6 w6.heap.size A6 m := Sv.of_own ho6
  have str1 := run_string_sl (P := Try.prog) w6 24 9 5 Try.underlying24 Try.underlying5 Try.underlying9 w6.heap.size A6 m.length c6 m hT6 rfl
  have str2 := run_string_sl (P := Try.prog) w6 24 9 5 Try.underlying24 Try.underlying5 Try.underlying9 w.heap.size B m.length d m (HT.out.below HB6.out) rfl
  have str3 := run_string_sl (P := Try.prog) w6 24 9 5 Try.underlying24 Try.underlying5 Try.underlying9 w.heap.size A l.length c l (HS.out.below HB6.out) rfl
  clear hb6 ho6 HB5 HKA5 HNA5 HOPEN h61 h62 HX5 hT6
  have hX6b := HX6.out
  have hxlen : (X.map cell8).length = m.length + 16 := by rw [List.length_map]; exact HXL.out
  go_wp2_with (first
    | (at_builtin; refine wpList_append_sv _ rfl (.tmp 88) (.tmp 89) _ rfl w6.heap.size 5 i0 _ 1 Try.underlying24 hi0 hz0 hz1 hz2 rfl (.slice (some ⟨w6.heap.size, 0, none⟩) 0 0) 0 [] rfl (own_none w6 5) w6.heap.size A5 (m.length + 16) c5 (X.map cell8) rfl (sv_alloc hX6b (Nat.le_refl _) _) hxlen (cell8_one _) (by unfold maxLen; omega) (by omega) (by simp) ?_; intro vw7 w7 how7 hgw7 _; rw [Nat.zero_add, List.nil_append] at how7; have HOw7 := Lib.hid how7; have HCw7 := Lib.hid (below_clone hgw7 (Nat.le_refl _)); clear how7 hgw7))
  clear str1 str2 str3 hX6b hxlen
  have HB7 := Lib.hid (HB6.out.trans (HCw7.out.mono HB6.out.size))
  have HKA7 := Lib.hid (HKA6.out.below HCw7.out HKA6.out.lt)
  have HNA7 := Lib.hid (HNA6.out.below HCw7.out HNA6.out.lt)
  obtain ⟨gb, cb, rfl, hpb, hgb, hcb1, hcb2⟩ := Pb.of_own HOw7.out (by omega)
  have hgw : w.heap.size ≤ gb := Nat.le_trans HB6.out.size hgb
  have HKLT : Hid (ka < gb) := Lib.hid (Nat.lt_of_lt_of_le HKA6.out.lt hgb)
  have HNLT : Hid (na < gb) := Lib.hid (Nat.lt_of_lt_of_le HNA6.out.lt hgb)
  have HC67 := HCw7
  have HG67 := Lib.hid hgb
  have HPB := Lib.hid hpb
  clear hpb hgb HOw7 HCw7 HB6 HKA6 HNA6
  obtain ⟨N, hN⟩ : ∃ N, N = m.length + 16 := ⟨_, rfl⟩
  have HN2 := Deep.mk hN
  have HXN : Deep (X.length = N) := ⟨by rw [HXL.out, hN]⟩
  have hN16 : 16 ≤ N := by omega
  have hN700 : N ≤ 700 := by omega
  rw [← hN] at hcb1 ⊢
  have H51N : Hid (N ≤ c5) := Lib.hid (by rw [hN]; exact H51.out)
  clear hN
  go_wp2_with fail
  obtain ⟨q, hq⟩ : ∃ q, q = n / 8 := ⟨_, rfl⟩
  obtain ⟨p, hp⟩ : ∃ p, p = q % N := ⟨_, rfl⟩
  obtain ⟨t, ht⟩ : ∃ t, t = n % 8 := ⟨_, rfl⟩
  have hpN : p < N := by rw [hp]; exact Nat.mod_lt _ (by omega)
  have ht8 : t < 8 := by omega
  have HQ := Lib.hid (tdiv8 n)
  have HP := Lib.hid (tmodL q N)
  have HT8 := Lib.hid (tmod8 n)
  rw [← hq] at HQ
  rw [← hp] at HP
  rw [← ht] at HT8
  obtain ⟨y, hy⟩ : ∃ y, y = UInt8.ofNat (2 ^ t) := ⟨_, rfl⟩
  have HY := Lib.hid (pow_byte t ht8)
  rw [← hy] at HY
  have HYY := Deep.mk hy
  have hx := HPB.out.cell (j := p) (by rw [HXN.out]; exact hpN)
  have hf := HPB.out.frozen p
  obtain ⟨x, hx0⟩ : ∃ x, x = X.getD p 0 := ⟨_, rfl⟩
  rw [← hx0] at hx
  have HX0 := Deep.mk hx0
  obtain ⟨z, hz⟩ : ∃ z, z = x ^^^ y := ⟨_, rfl⟩
  have HZZ := Deep.mk hz
  clear hz
  have hpi : (p : Int) < (N : Int) := by omega
  have hpb2 := HPB.out.put p z
  have hgs := grown_trans (grown_below (row := some gb) ((Below.refl _ w7).drew)) (grown_set w7.drew gb p (.int .u8 (z.toNat : Int)))
  have hqw : IntKind.i64.wrap (q : Int) = (q : Int) := IntWalk.i64_in _ (by omega)
  have hNz : ¬ N = 0 := by omega
  have HPN := Lib.hid hpN
  have HT9 := Lib.hid ht8
  clear hq hp ht hy hx0 hpN ht8
  have hcd : w7.drew.cell? ⟨gb, p, none⟩ = some (.int .u8 (x.toNat : Int)) := hx
  have hfd : w7.drew.frozen? ⟨gb, p, none⟩ = false := hf
  have HG2 : Hid (Pb ((w7.drew).setCell ⟨gb, p, none⟩ (.int .u8 (z.toNat : Int))) gb 5 (X.set p z)) := Lib.hid hpb2
  have HS2 : Hid (w7.grownBy ((w7.drew).setCell ⟨gb, p, none⟩ (.int .u8 (z.toNat : Int))) (some gb)) := Lib.hid hgs
  clear hx hf hpb2 hgs
  refine wp_region_held_drew (S := fun _ => True) (by kernel_rfl) trivial (fun _ => ?_)
  refine wpAnyH_take (i := 0) (v := .slice (some ⟨gb, 0, none⟩) N cb) (List.getElem?_toArray.trans rfl) (by kernel_rfl) (by kernel_rfl) (by kernel_rfl) (fun _ _ _ h => h) (.inl ⟨rfl, fun w' hS => rfl⟩) trivial ?_
  refine act_normM (by simp only [Act.put, List.setIfInBounds_toArray, List.set_cons_zero, List.set_cons_succ]; rfl) ?_
  refine wpAnyH_take (i := 1) (v := .int .i64 (n : Int)) (List.getElem?_toArray.trans rfl) (by kernel_rfl) (by kernel_rfl) (by kernel_rfl) (fun _ _ _ h => h) (.inl ⟨rfl, fun w' hS => rfl⟩) trivial ?_
  refine act_normM (by simp only [Act.put, List.setIfInBounds_toArray, List.set_cons_zero, List.set_cons_succ]; rfl) ?_
  refine wpAnyH_take (i := 2) (v := .int .i64 (q : Int)) (List.getElem?_toArray.trans rfl) (by kernel_rfl) (by kernel_rfl) (by kernel_rfl) (fun _ _ _ h => h) (.inl ⟨rfl, fun w' hS => by simp [go_sem, HQ.out, hqw]⟩) trivial ?_
  refine act_normM (by simp only [Act.put, List.setIfInBounds_toArray, List.set_cons_zero, List.set_cons_succ]; rfl) ?_
  refine wpAnyH_take (i := 3) (v := .slice (some ⟨gb, 0, none⟩) N cb) (List.getElem?_toArray.trans rfl) (by kernel_rfl) (by kernel_rfl) (by kernel_rfl) (fun _ _ _ h => h) (.inl ⟨rfl, fun w' hS => rfl⟩) trivial ?_
  refine act_normM (by simp only [Act.put, List.setIfInBounds_toArray, List.set_cons_zero, List.set_cons_succ]; rfl) ?_
  refine wpAnyH_take (i := 4) (v := .int .i64 (N : Int)) (List.getElem?_toArray.trans rfl) (by kernel_rfl) (by kernel_rfl) (by kernel_rfl) (fun _ _ _ h => h) (.inl ⟨rfl, fun w' hS => by simp [go_sem]⟩) trivial ?_
  refine act_normM (by simp only [Act.put, List.setIfInBounds_toArray, List.set_cons_zero, List.set_cons_succ]; rfl) ?_
  refine wpAnyH_take (i := 5) (v := .int .i64 (p : Int)) (List.getElem?_toArray.trans rfl) (by kernel_rfl) (by kernel_rfl) (by kernel_rfl) (fun _ _ _ h => h) (.inl ⟨rfl, fun w' hS => by simp [go_sem, HP.out, hNz]⟩) trivial ?_
  refine act_normM (by simp only [Act.put, List.setIfInBounds_toArray, List.set_cons_zero, List.set_cons_succ]; rfl) ?_
  refine wpAnyH_take (i := 6) (v := .pointer (some ⟨gb, p, none⟩)) (List.getElem?_toArray.trans rfl) (by kernel_rfl) (by kernel_rfl) (by kernel_rfl) (fun _ _ _ h => h) (.inl ⟨rfl, fun w' hS => by simp [go_sem, hpi]⟩) trivial ?_
  refine act_normM (by simp only [Act.put, List.setIfInBounds_toArray, List.set_cons_zero, List.set_cons_succ]; rfl) ?_
  refine wpAnyH_take (i := 8) (v := .int .i64 (n : Int)) (List.getElem?_toArray.trans rfl) (by kernel_rfl) (by kernel_rfl) (by kernel_rfl) (fun _ _ _ h => h) (.inl ⟨rfl, fun w' hS => rfl⟩) trivial ?_
  refine act_normM (by simp only [Act.put, List.setIfInBounds_toArray, List.set_cons_zero, List.set_cons_succ]; rfl) ?_
  refine wpAnyH_take (i := 9) (v := .int .i64 (t : Int)) (List.getElem?_toArray.trans rfl) (by kernel_rfl) (by kernel_rfl) (by kernel_rfl) (fun _ _ _ h => h) (.inl ⟨rfl, fun w' hS => by simp [go_sem, HT8.out]⟩) trivial ?_
  refine act_normM (by simp only [Act.put, List.setIfInBounds_toArray, List.set_cons_zero, List.set_cons_succ]; rfl) ?_
  refine wpAnyH_take (i := 10) (v := .int .u8 (y.toNat : Int)) (List.getElem?_toArray.trans rfl) (by kernel_rfl) (by kernel_rfl) (by kernel_rfl) (fun _ _ _ h => h) (.inl ⟨rfl, fun w' hS => by simp [go_sem, HY.out]⟩) trivial ?_
  refine act_normM (by simp only [Act.put, List.setIfInBounds_toArray, List.set_cons_zero, List.set_cons_succ]; rfl) ?_
  refine wpAnyH_ready (rs := [7]) (by kernel_rfl) (by simp) (AllReadyH.cons (List.getElem?_toArray.trans rfl) (fun K' hK => ?_) AllReadyH.nil)
  refine wanted_goM rfl ?_
  go_simp
  refine hK.out _ _ trivial (fun _ => ?_)
  clear hK K'
  refine wpAnyH_take (i := 11) (v := .int .u8 (z.toNat : Int)) (List.getElem?_toArray.trans rfl) (by kernel_rfl) (by kernel_rfl) (by kernel_rfl) (fun _ _ _ h => h) (.inl ⟨rfl, fun w' hS => by rw [HZZ.out, ← b_xor]; simp [go_sem]⟩) trivial ?_
  refine act_normM (by simp only [Act.put, List.setIfInBounds_toArray, List.set_cons_zero, List.set_cons_succ]; rfl) ?_
  refine wpAnyH_take (i := 12) (v := .pointer (some ⟨gb, p, none⟩)) (List.getElem?_toArray.trans rfl) (by kernel_rfl) (by kernel_rfl) (by kernel_rfl) (fun _ _ _ h => h) (.inl ⟨rfl, fun w' hS => by simp [go_sem, hpi]⟩) trivial ?_
  refine act_normM (by simp only [Act.put, List.setIfInBounds_toArray, List.set_cons_zero, List.set_cons_succ]; rfl) ?_
  refine wpAnyH_ready (rs := [13]) (by kernel_rfl) (by simp) (AllReadyH.cons (List.getElem?_toArray.trans rfl) (fun K' hK => ?_) AllReadyH.nil)
  refine wanted_goM rfl ?_
  go_simp
  refine hK.out _ _ trivial (fun _ => ?_)
  clear hK K'
  refine wpAnyH_done (by kernel_rfl) ?_ _
  clear hcd hfd hNz hqw hpi HQ HP HT8 HY
  change Exit.then _ _ _ _ ((w7.drew).setCell ⟨gb, p, none⟩ (.int .u8 (z.toNat : Int)))
  generalize (w7.drew).setCell ⟨gb, p, none⟩ (.int .u8 (z.toNat : Int)) = w8 at *
  have HWB8 := Lib.hid (below_grown HB7.out HS2.out hgw HB7.out.size)
  have HKA8 := Lib.hid (HKA7.out.grown HS2.out (by intro e; have := Option.some.inj e; have := HKLT.out; omega))
  have HNA8 := Lib.hid (HNA7.out.grown HS2.out (by intro e; have := Option.some.inj e; have := HNLT.out; omega))
  have HX8 : Hid (Sl w8 w8.heap.size A5 X) := Lib.hid ((HX6.out.keep (Nat.le_refl _) (fun p hp => (World.cell?_of_block (HS2.out.block p.block (Nat.lt_of_lt_of_le hp HC67.out.size) (by intro e; have := Option.some.inj e; have := HG67.out; omega))).trans (HC67.out.cell hp))).keep (Nat.le_trans HC67.out.size HS2.out.size) (fun _ _ => rfl))
  have hbad : ¬ OkG key nn l (X.set p z) := by
    rw [HZZ.out, HX0.out, HYY.out, HX.out]
    exact bad_seal (ky_ne HZ.out) nn l m p t (by have := HPN.out; rw [← HX.out, HXN.out]; exact this) HT9.out
  obtain ⟨V, hV⟩ : ∃ V, V = X.set p z := ⟨_, rfl⟩
  have hVl : V.length = N := by rw [hV, List.length_set, HXN.out]
  rw [← hV] at hbad HG2
  have hopen := gcopen_any key nn l V A (some ⟨gb, 0, none⟩) c cb w8 HKL.out HNL.out ((HS.out.below HWB8.out).keep HWB8.out.size (fun _ _ => rfl)) HLC.out HCM.out (by omega) (HG2.out.sl) (by rw [hVl]; exact hcb1) hcb2 (by rw [hVl]; omega)
  rw [hVl] at hopen
  have HOPEN := Lib.hid (hopen.mono fun _ _ h => open_n hbad h)
  clear hopen hbad hV hVl HG2 HS2 HX0 HYY HZZ HPN HT9 HB7 HKA7 HNA7 HPB
  go_wp2_with (first
    | (refine wpList_load_blk rfl (.tmp 5) rfl ka 0 rfl key HKL.out (Wh.range HKA8.out) ?_)
    | (refine wpList_load_mid rfl 23 (.tmp 6) rfl na 0 rfl (nn.map cell8) _ (Wh.range HNA8.out) Try.underlying23 rfl (by rw [List.length_map, HNL.out]; exact info_n12) ?_))
  refine HOPEN.out.mono ?_
  rintro e w9 ⟨rfl, hb9⟩
  have HB9 := Lib.hid (HWB8.out.trans (hb9.mono HWB8.out.size))
  have HKA9 := Lib.hid (HKA8.out.below hb9 HKA8.out.lt)
  have HNA9 := Lib.hid (HNA8.out.below hb9 HNA8.out.lt)
  have HX9 : Hid (Sl w9 w9.heap.size A5 X) := Lib.hid ((HX8.out.below hb9).keep hb9.size (fun _ _ => rfl))
  clear hb9 HWB8 HKA8 HNA8 HX8 HOPEN
  by_cases hl0 : l.length = 0
  · have hd0 : decide ((l.length : Int) = 0) = true := by rw [decide_eq_true_iff]; omega
    have he0 : ((l.length : Int) == 0) = true := by simpa using hl0
    clear hl0
    go_wp2
    go_ret
    exact ⟨rfl, HB9.out⟩
  · have hd0 : decide ((l.length : Int) = 0) = false := by rw [decide_eq_false_iff_not]; omega
    have he0 : ((l.length : Int) == 0) = false := by simpa using hl0
    have hl1 : 0 < l.length := by omega
    have hS9 : Sl w9 w.heap.size A l := HS.out.below HB9.out
    have hz9 := HB9.out.size
    go_wp2_with (first
      | (at_builtin; refine wpList_append_sv _ rfl (.tmp 121) (.tmp 122) _ rfl w9.heap.size 5 i0 _ 1 Try.underlying24 hi0 hz0 hz1 hz2 rfl (.slice (some ⟨w9.heap.size, 0, none⟩) 0 0) 0 [] rfl (own_none w9 5) w.heap.size A l.length c (l.map cell8) rfl (sv_alloc hS9 hz9 _) (List.length_map _) (cell8_one _) (by unfold maxLen; omega) (by omega) (by simp) ?_; intro vw10 w10 how10 hgw10 _; rw [Nat.zero_add, List.nil_append] at how10; have HOw10 := Lib.hid how10; have HCw10 := Lib.hid (below_clone hgw10 (Nat.le_refl _)); clear how10 hgw10))
    clear hS9 hz9 hd0 he0
    have HB10 := Lib.hid (HB9.out.trans (HCw10.out.mono HB9.out.size))
    have HKA10 := Lib.hid (HKA9.out.below HCw10.out HKA9.out.lt)
    have HNA10 := Lib.hid (HNA9.out.below HCw10.out HNA9.out.lt)
    obtain ⟨ga, ca, rfl, hpa, hga, hca1, hca2⟩ := Pb.of_own HOw10.out hl1
    have hgw2 : w.heap.size ≤ ga := Nat.le_trans HB9.out.size hga
    have HKLT2 : Hid (ka < ga) := Lib.hid (Nat.lt_of_lt_of_le HKA9.out.lt hga)
    have HNLT2 : Hid (na < ga) := Lib.hid (Nat.lt_of_lt_of_le HNA9.out.lt hga)
    have HG910 := Lib.hid hga
    have HPA := Lib.hid hpa
    clear hpa hga HOw10 HB9 HKA9 HNA9
    go_wp2_with fail
    obtain ⟨q, hq⟩ : ∃ q, q = n / 8 := ⟨_, rfl⟩
    obtain ⟨p, hp⟩ : ∃ p, p = q % l.length := ⟨_, rfl⟩
    obtain ⟨t, ht⟩ : ∃ t, t = n % 8 := ⟨_, rfl⟩
    have hpN : p < l.length := by rw [hp]; exact Nat.mod_lt _ (by omega)
    have ht8 : t < 8 := by omega
    have HQ := Lib.hid (tdiv8 n)
    have HP := Lib.hid (tmodL q l.length)
    have HT8 := Lib.hid (tmod8 n)
    rw [← hq] at HQ
    rw [← hp] at HP
    rw [← ht] at HT8
    obtain ⟨y, hy⟩ : ∃ y, y = UInt8.ofNat (2 ^ t) := ⟨_, rfl⟩
    have HY := Lib.hid (pow_byte t ht8)
    rw [← hy] at HY
    have HYY := Deep.mk hy
    have hx := HPA.out.cell (j := p) hpN
    have hf := HPA.out.frozen p
    obtain ⟨x, hx0⟩ : ∃ x, x = l.getD p 0 := ⟨_, rfl⟩
    rw [← hx0] at hx
    have HX0 := Deep.mk hx0
    obtain ⟨z, hz⟩ : ∃ z, z = x ^^^ y := ⟨_, rfl⟩
    have HZZ := Deep.mk hz
    clear hz
    have hpi : (p : Int) < (l.length : Int) := by omega
    have hpb2 := HPA.out.put p z
    have hgs := grown_trans (grown_below (row := some ga) ((Below.refl _ w10).drew)) (grown_set w10.drew ga p (.int .u8 (z.toNat : Int)))
    have hqw : IntKind.i64.wrap (q : Int) = (q : Int) := IntWalk.i64_in _ (by omega)
    have hNz : ¬ l.length = 0 := by omega
    have HPN := Lib.hid hpN
    have HT9 := Lib.hid ht8
    clear hq hp ht hy hx0 hpN ht8
    have hcd : w10.drew.cell? ⟨ga, p, none⟩ = some (.int .u8 (x.toNat : Int)) := hx
    have hfd : w10.drew.frozen? ⟨ga, p, none⟩ = false := hf
    have HG2 : Hid (Pb ((w10.drew).setCell ⟨ga, p, none⟩ (.int .u8 (z.toNat : Int))) ga 5 (l.set p z)) := Lib.hid hpb2
    have HS2 : Hid (w10.grownBy ((w10.drew).setCell ⟨ga, p, none⟩ (.int .u8 (z.toNat : Int))) (some ga)) := Lib.hid hgs
    clear hx hf hpb2 hgs
    refine wp_region_held_drew (S := fun _ => True) (by kernel_rfl) trivial (fun _ => ?_)
    refine wpAnyH_take (i := 0) (v := .slice (some ⟨ga, 0, none⟩) l.length ca) (List.getElem?_toArray.trans rfl) (by kernel_rfl) (by kernel_rfl) (by kernel_rfl) (fun _ _ _ h => h) (.inl ⟨rfl, fun w' hS => rfl⟩) trivial ?_
    refine act_normM (by simp only [Act.put, List.setIfInBounds_toArray, List.set_cons_zero, List.set_cons_succ]; rfl) ?_
    refine wpAnyH_take (i := 1) (v := .int .i64 (n : Int)) (List.getElem?_toArray.trans rfl) (by kernel_rfl) (by kernel_rfl) (by kernel_rfl) (fun _ _ _ h => h) (.inl ⟨rfl, fun w' hS => rfl⟩) trivial ?_
    refine act_normM (by simp only [Act.put, List.setIfInBounds_toArray, List.set_cons_zero, List.set_cons_succ]; rfl) ?_
    refine wpAnyH_take (i := 2) (v := .int .i64 (q : Int)) (List.getElem?_toArray.trans rfl) (by kernel_rfl) (by kernel_rfl) (by kernel_rfl) (fun _ _ _ h => h) (.inl ⟨rfl, fun w' hS => by simp [go_sem, HQ.out, hqw]⟩) trivial ?_
    refine act_normM (by simp only [Act.put, List.setIfInBounds_toArray, List.set_cons_zero, List.set_cons_succ]; rfl) ?_
    refine wpAnyH_take (i := 3) (v := .slice (some ⟨ga, 0, none⟩) l.length ca) (List.getElem?_toArray.trans rfl) (by kernel_rfl) (by kernel_rfl) (by kernel_rfl) (fun _ _ _ h => h) (.inl ⟨rfl, fun w' hS => rfl⟩) trivial ?_
    refine act_normM (by simp only [Act.put, List.setIfInBounds_toArray, List.set_cons_zero, List.set_cons_succ]; rfl) ?_
    refine wpAnyH_take (i := 4) (v := .int .i64 (l.length : Int)) (List.getElem?_toArray.trans rfl) (by kernel_rfl) (by kernel_rfl) (by kernel_rfl) (fun _ _ _ h => h) (.inl ⟨rfl, fun w' hS => by simp [go_sem]⟩) trivial ?_
    refine act_normM (by simp only [Act.put, List.setIfInBounds_toArray, List.set_cons_zero, List.set_cons_succ]; rfl) ?_
    refine wpAnyH_take (i := 5) (v := .int .i64 (p : Int)) (List.getElem?_toArray.trans rfl) (by kernel_rfl) (by kernel_rfl) (by kernel_rfl) (fun _ _ _ h => h) (.inl ⟨rfl, fun w' hS => by simp [go_sem, HP.out, hNz]⟩) trivial ?_
    refine act_normM (by simp only [Act.put, List.setIfInBounds_toArray, List.set_cons_zero, List.set_cons_succ]; rfl) ?_
    refine wpAnyH_take (i := 6) (v := .pointer (some ⟨ga, p, none⟩)) (List.getElem?_toArray.trans rfl) (by kernel_rfl) (by kernel_rfl) (by kernel_rfl) (fun _ _ _ h => h) (.inl ⟨rfl, fun w' hS => by simp [go_sem, hpi]⟩) trivial ?_
    refine act_normM (by simp only [Act.put, List.setIfInBounds_toArray, List.set_cons_zero, List.set_cons_succ]; rfl) ?_
    refine wpAnyH_take (i := 8) (v := .int .i64 (n : Int)) (List.getElem?_toArray.trans rfl) (by kernel_rfl) (by kernel_rfl) (by kernel_rfl) (fun _ _ _ h => h) (.inl ⟨rfl, fun w' hS => rfl⟩) trivial ?_
    refine act_normM (by simp only [Act.put, List.setIfInBounds_toArray, List.set_cons_zero, List.set_cons_succ]; rfl) ?_
    refine wpAnyH_take (i := 9) (v := .int .i64 (t : Int)) (List.getElem?_toArray.trans rfl) (by kernel_rfl) (by kernel_rfl) (by kernel_rfl) (fun _ _ _ h => h) (.inl ⟨rfl, fun w' hS => by simp [go_sem, HT8.out]⟩) trivial ?_
    refine act_normM (by simp only [Act.put, List.setIfInBounds_toArray, List.set_cons_zero, List.set_cons_succ]; rfl) ?_
    refine wpAnyH_take (i := 10) (v := .int .u8 (y.toNat : Int)) (List.getElem?_toArray.trans rfl) (by kernel_rfl) (by kernel_rfl) (by kernel_rfl) (fun _ _ _ h => h) (.inl ⟨rfl, fun w' hS => by simp [go_sem, HY.out]⟩) trivial ?_
    refine act_normM (by simp only [Act.put, List.setIfInBounds_toArray, List.set_cons_zero, List.set_cons_succ]; rfl) ?_
    refine wpAnyH_ready (rs := [7]) (by kernel_rfl) (by simp) (AllReadyH.cons (List.getElem?_toArray.trans rfl) (fun K' hK => ?_) AllReadyH.nil)
    refine wanted_goM rfl ?_
    go_simp
    refine hK.out _ _ trivial (fun _ => ?_)
    clear hK K'
    refine wpAnyH_take (i := 11) (v := .int .u8 (z.toNat : Int)) (List.getElem?_toArray.trans rfl) (by kernel_rfl) (by kernel_rfl) (by kernel_rfl) (fun _ _ _ h => h) (.inl ⟨rfl, fun w' hS => by rw [HZZ.out, ← b_xor]; simp [go_sem]⟩) trivial ?_
    refine act_normM (by simp only [Act.put, List.setIfInBounds_toArray, List.set_cons_zero, List.set_cons_succ]; rfl) ?_
    refine wpAnyH_take (i := 12) (v := .pointer (some ⟨ga, p, none⟩)) (List.getElem?_toArray.trans rfl) (by kernel_rfl) (by kernel_rfl) (by kernel_rfl) (fun _ _ _ h => h) (.inl ⟨rfl, fun w' hS => by simp [go_sem, hpi]⟩) trivial ?_
    refine act_normM (by simp only [Act.put, List.setIfInBounds_toArray, List.set_cons_zero, List.set_cons_succ]; rfl) ?_
    refine wpAnyH_ready (rs := [13]) (by kernel_rfl) (by simp) (AllReadyH.cons (List.getElem?_toArray.trans rfl) (fun K' hK => ?_) AllReadyH.nil)
    refine wanted_goM rfl ?_
    go_simp
    refine hK.out _ _ trivial (fun _ => ?_)
    clear hK K'
    refine wpAnyH_done (by kernel_rfl) ?_ _
    clear hcd hfd hNz hqw hpi HQ HP HT8 HY
    change Exit.then _ _ _ _ ((w10.drew).setCell ⟨ga, p, none⟩ (.int .u8 (z.toNat : Int)))
    generalize (w10.drew).setCell ⟨ga, p, none⟩ (.int .u8 (z.toNat : Int)) = w11 at *
    have HB11 := Lib.hid (below_grown HB10.out HS2.out hgw2 HB10.out.size)
    have HKA11 := Lib.hid (HKA10.out.grown HS2.out (by intro e; have := Option.some.inj e; have := HKLT2.out; omega))
    have HNA11 := Lib.hid (HNA10.out.grown HS2.out (by intro e; have := Option.some.inj e; have := HNLT2.out; omega))
    have HX11 : Hid (Sl w11 w11.heap.size A5 X) := Lib.hid ((HX9.out.keep (Nat.le_refl _) (fun p hp => (World.cell?_of_block (HS2.out.block p.block (Nat.lt_of_lt_of_le hp HCw10.out.size) (by intro e; have := Option.some.inj e; have := HG910.out; omega))).trans (HCw10.out.cell hp))).keep (Nat.le_trans HCw10.out.size HS2.out.size) (fun _ _ => rfl))
    have hbad : ¬ OkG key nn (l.set p z) X := by
      rw [HZZ.out, HX0.out, HYY.out, HX.out]
      exact bad_aad (ky_ne HZ.out) nn l m p t HPN.out HT9.out
    obtain ⟨V, hV⟩ : ∃ V, V = l.set p z := ⟨_, rfl⟩
    have hVl : V.length = l.length := by rw [hV, List.length_set]
    rw [← hV] at hbad HG2
    have hopen := gcopen_any key nn V X (some ⟨ga, 0, none⟩) A5 ca c5 w11 HKL.out HNL.out (HG2.out.sl) (by rw [hVl]; exact hca1) hca2 (by rw [hVl]; omega) HX11.out (by rw [HXN.out]; exact H51N.out) H52.out (by rw [HXN.out]; omega)
    rw [hVl, HXN.out] at hopen
    have HOPEN := Lib.hid (hopen.mono fun _ _ h => open_n hbad h)
    clear hopen hbad hV hVl HG2 HS2 HX0 HYY HZZ HPN HT9 HB10 HKA10 HNA10 HPA
    go_wp2_with (first
      | (refine wpList_load_blk rfl (.tmp 5) rfl ka 0 rfl key HKL.out (Wh.range HKA11.out) ?_)
      | (refine wpList_load_mid rfl 23 (.tmp 6) rfl na 0 rfl (nn.map cell8) _ (Wh.range HNA11.out) Try.underlying23 rfl (by rw [List.length_map, HNL.out]; exact info_n12) ?_))
    refine HOPEN.out.mono ?_
    rintro e w12 ⟨rfl, hb12⟩
    have HB12 := Lib.hid (HB11.out.trans (hb12.mono HB11.out.size))
    clear hb12 HB11 HKA11 HNA11 HX11 HOPEN
    go_wp2
    go_ret
    exact ⟨rfl, HB12.out⟩

theorem gcback_any (key nn l m : List UInt8) (A B : Option Addr) (c d : Nat) (bit : Int) (w : World) (hk : key.length = 16) (hn : nn.length = 12) (hs : Sl w w.heap.size A l) (hlc : l.length ≤ c) (hcm : c ≤ maxLen)
    (ht : Sl w w.heap.size B m) (hmd : m.length ≤ d) (hdm : d ≤ maxLen) (hb : bit ≤ 9223372036854775807) :
    Calls Try.prog 4 #[.agg (aRow key), .agg (aRow nn), .slice A l.length c, .slice B m.length d, .int .i64 bit] w fun e w' => e = .returned (.bool true) ∧ Below w.heap.size w w' := by
  by_cases h : 600 < l.length ∨ 600 < m.length ∨ bit < 0
  · exact back_early key nn l m A B c d bit w h
  · obtain ⟨n, rfl⟩ : ∃ n : Nat, bit = (n : Int) := ⟨bit.toNat, by omega⟩
    by_cases hz : seL (ksL key) (List.replicate 16 0) = List.replicate 16 0
    · exact back_zero key nn l m A B c d n w hk (by omega) (by omega) hz
    · exact back_main key nn l m A B c d n w hk hn hs hlc hcm (by omega) ht hmd hdm (by omega) (by omega) hz
end Go.Proofs.Ytajfpbkeabdcaaa
