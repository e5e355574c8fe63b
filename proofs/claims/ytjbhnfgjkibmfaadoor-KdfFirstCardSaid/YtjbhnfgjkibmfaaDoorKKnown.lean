/-
  The document's examples of layer 7, walked.
-/
import Derived.Test.YtjbhnfgjkibmfaaDoorKLaw0
namespace Go.Proofs.YtjbhnfgjkibmfaaDoor
open Go.RowKit
set_option linter.unusedVariables false

/-- What stands while the region that draws is under way. -/
structure KC (w0 wr : World) (B g1 g2 : Nat) (s1 s2 : List UInt8) : Prop where
  bel : Below B w0 wr
  b1 : Wh wr g1 27 (bRow s1)
  b2 : Wh wr g2 27 (bRow s2)
theorem KC.keep {w0 wr wr' : World} {B g1 g2 M : Nat} {s1 s2 : List UInt8} (h : KC w0 wr B g1 g2 s1 s2) (hb : Below M wr wr') (hB : B ≤ M) (h1 : g1 < M) (h2 : g2 < M) : KC w0 wr' B g1 g2 s1 s2 :=
  ⟨h.bel.trans (hb.mono hB), h.b1.below hb h1, h.b2.below hb h2⟩

set_option maxRecDepth 100000 in
set_option maxHeartbeats 800000 in
theorem known_any (w : World) (hK : KT w kW) (hKb : 0 < w.heap.size) :
    Calls Tryd.prog 6 #[] w fun e w' => e = .returned (.bool true) ∧ Below w.heap.size w w' := by
  obtain ⟨ks, hks⟩ : ∃ ks, ks = kW := ⟨_, rfl⟩
  rw [← hks] at hK
  have hkl : ks.length = 64 := by rw [hks]; exact kW_len
  have HKS := Deep.mk hks
  have HKL := Deep.mk hkl
  have HK := Lib.hid hK
  clear hks hkl hK
  have kc := fun (w : World) (C : Array Value) (n c : Nat) => Lib.run_convert_bytes_const (P := Tryd.prog) w 22 5 C n c Tryd.underlying22 Tryd.underlying5
  go_enter Tryd.func6, Tryd.ntmps6
  go_wp2_with fail
  refine (same_any 11 20 w (by omega)).mono ?_
  rintro e w1 ⟨A1, c1, rfl, h1a, h1b, hown1, hb1⟩
  rw [List.length_replicate] at h1a hown1
  rw [List.length_replicate]
  have HO1 := Lib.hid hown1
  have HB1 := Lib.hid hb1
  clear hown1 hb1
  go_wp2_with fail
  clear kc
  obtain ⟨wt, hwt⟩ : ∃ wt, wt = w1.alloc (.cells #[.int .u8 72, .int .u8 105, .int .u8 32, .int .u8 84, .int .u8 104, .int .u8 101, .int .u8 114, .int .u8 101] 5 (8, 9)) := ⟨_, rfl⟩
  rw [← hwt]
  have hbt : Below w1.heap.size w1 wt := by rw [hwt]; exact (Below.refl _ _).alloc (Nat.le_refl _) _
  have hst : wt.heap.size = w1.heap.size + 1 := by rw [hwt]; simp
  have hsh : Sl wt wt.heap.size (some ⟨w1.heap.size, 0, none⟩) [72, 105, 32, 84, 104, 101, 114, 101] := by
    intro _
    refine ⟨w1.heap.size, 0, rfl, by omega, fun i v hv => ?_⟩
    rw [hwt, World.cell?_alloc_mark, Nat.zero_add]
    rcases i with _ | _ | _ | _ | _ | _ | _ | _ | i <;> first | exact hv | cases hv
  rw [← hst]
  have hkt : Sl wt wt.heap.size A1 (List.replicate 20 11) := (Sv.below (Sv.of_own HO1.out) hbt).keep hbt.size (fun _ _ => rfl)
  have hbwt : Below w.heap.size w wt := HB1.out.trans (hbt.mono HB1.out.size)
  have hKt := HK.out.below hKb hbwt
  have hKbt : 0 < wt.heap.size := Nat.lt_of_lt_of_le hKb hbwt.size
  refine (mac_of ks (List.replicate 20 11) A1 20 c1 [[72, 105, 32, 84, 104, 101, 114, 101]] [.slice (some ⟨w1.heap.size, 0, none⟩) 8 8] 1 wt HKL.out hKt hKbt (by simp) h1a h1b hkt (by omega) rfl (by omega) ((PartsAt.nil wt wt.heap.size).cons (n := 8) rfl (Nat.le_refl _) (by unfold maxLen; omega) hsh) (by simp)).mono ?_
  rintro e w2 ⟨rfl, hb2⟩
  obtain ⟨s1, hs1⟩ : ∃ s1, s1 = macK ks (List.replicate 20 11) [[72, 105, 32, 84, 104, 101, 114, 101]].flatten := ⟨_, rfl⟩
  rw [← hs1]
  have HS1 : Deep (strB s1 = { data := #[176, 52, 76, 97, 216, 219, 56, 83, 92, 168, 175, 206, 175, 11, 241, 43, 136, 29, 194, 0, 201, 131, 61, 167, 38, 233, 55, 108, 46, 50, 207, 247] }) := ⟨by rw [hs1, HKS.out, show [[72, 105, 32, 84, 104, 101, 114, 101]].flatten = ([72, 105, 32, 84, 104, 101, 114, 101] : List UInt8) from rfl, mac_hi]; rfl⟩
  have HL1 : Deep (s1.length = 32) := ⟨by rw [hs1]; exact macK_len _ _ _⟩
  have HB2 := Lib.hid (hbwt.trans (hb2.mono hbwt.size))
  clear hwt hbt hst hsh hkt hbwt hKt hKbt hs1 hb2 HO1 HB1
  go_upto_region 2 with (refine wpList_store_row rfl 27 (.tmp 1) (.tmp 8) rfl w2.heap.size (bRow s1) rfl rfl _ _ (Wh.new w2 _ _) (info_bRow HL1.out) (by rw [bRow_size, HL1.out]; rfl) (bRow_one _) ?_; rw [World.setRow_alloc_new])
  have hb3 : Below w.heap.size w (w2.alloc (.cells (bRow s1) 27)) := HB2.out.alloc HB2.out.size _
  have hw3 : Wh (w2.alloc (.cells (bRow s1) 27)) w2.heap.size 27 (bRow s1) := Wh.new _ _ _
  obtain ⟨g1, hg1⟩ : ∃ g1, g1 = w2.heap.size := ⟨_, rfl⟩
  rw [← hg1] at hw3
  rw [← hg1]
  generalize w2.alloc (.cells (bRow s1) 27) = w3 at *
  have HB3 := Lib.hid hb3
  have HW3 := Lib.hid hw3
  have hg13 : g1 < w3.heap.size := hw3.lt
  have hww3 : w.heap.size ≤ w3.heap.size := hb3.size
  clear hg1 hb3 hw3 HB2
  go_wp2_with fail
  refine (rise_any 0 13 w3 (by omega)).mono ?_
  rintro e w4 ⟨A4, c4, rfl, h4a, h4b, hown4, hb4⟩
  rw [rise_salt, show exSalt.length = 13 from rfl] at h4a
  rw [rise_salt, show exSalt.length = 13 from rfl] at hown4
  rw [rise_salt, show exSalt.length = 13 from rfl]
  have hk4 : Sl w4 w4.heap.size A4 exSalt := Sv.of_own hown4
  have HK4 := Lib.hid hk4
  have HB4 := Lib.hid hb4
  clear hown4 hb4 hk4
  go_wp2_with fail
  refine (same_any 11 22 w4 (by omega)).mono ?_
  rintro e w5 ⟨A5, c5, rfl, h5a, h5b, hown5, hb5⟩
  rw [List.length_replicate] at h5a hown5
  rw [List.length_replicate]
  have hi5 : Sl w5 w5.heap.size A5 (List.replicate 22 11) := Sv.of_own hown5
  have hk5 : Sl w5 w5.heap.size A4 exSalt := (Sv.below HK4.out hb5).keep hb5.size (fun _ _ => rfl)
  have hb35 : Below w3.heap.size w3 w5 := HB4.out.trans (hb5.mono HB4.out.size)
  have hbw5 : Below w.heap.size w w5 := HB3.out.trans (hb35.mono hww3)
  have HI5 := Lib.hid hi5
  have HK5 := Lib.hid hk5
  have HB35 := Lib.hid hb35
  have HKT5 := Lib.hid (HK.out.below hKb hbw5)
  have hKb5 : 0 < w5.heap.size := Nat.lt_of_lt_of_le hKb hbw5.size
  clear hown5 hb5 hi5 hk5 hb35 hbw5 HB4 HK4
  go_wp2_with fail
  refine (extract_any ks exSalt (List.replicate 22 11) A4 13 c4 A5 22 c5 w5 HKL.out HKT5.out hKb5 rfl h4a h4b HK5.out (by omega) (by simp) h5a h5b HI5.out (by omega)).mono ?_
  rintro e w6 ⟨rfl, hb6⟩
  obtain ⟨s2, hs2⟩ : ∃ s2, s2 = macK ks exSalt (List.replicate 22 11) := ⟨_, rfl⟩
  rw [← hs2]
  have HS2 : Deep (s2 = exSecret) := ⟨by rw [hs2, HKS.out]; exact ext_ex⟩
  have HL2 : Deep (s2.length = 32) := ⟨by rw [hs2]; exact macK_len _ _ _⟩
  have HB6 := Lib.hid (HB35.out.trans (hb6.mono HB35.out.size))
  clear hs2 hb6 HI5 HK5 HB35 HKT5
  go_upto_region 3 with (refine wpList_store_row rfl 27 (.tmp 2) (.tmp 11) rfl w6.heap.size (bRow s2) rfl rfl _ _ (Wh.new w6 _ _) (info_bRow HL2.out) (by rw [bRow_size, HL2.out]; rfl) (bRow_one _) ?_; rw [World.setRow_alloc_new])
  have hb7 : Below w3.heap.size w3 (w6.alloc (.cells (bRow s2) 27)) := HB6.out.alloc HB6.out.size _
  have hw7 : Wh (w6.alloc (.cells (bRow s2) 27)) w6.heap.size 27 (bRow s2) := Wh.new _ _ _
  obtain ⟨g2, hg2⟩ : ∃ g2, g2 = w6.heap.size := ⟨_, rfl⟩
  rw [← hg2] at hw7
  rw [← hg2]
  generalize w6.alloc (.cells (bRow s2) 27) = w7 at *
  have hbw7 : Below w.heap.size w w7 := HB3.out.trans (hb7.mono hww3)
  have hg17 : g1 < w7.heap.size := Nat.lt_of_lt_of_le hg13 hb7.size
  have hg27 : g2 < w7.heap.size := hw7.lt
  have hww7 : w.heap.size ≤ w7.heap.size := hbw7.size
  have HKT7 := Lib.hid (HK.out.below hKb hbw7)
  have hKb7 : 0 < w7.heap.size := Nat.lt_of_lt_of_le hKb hbw7.size
  have hS0 : KC w w7.drew w.heap.size g1 g2 s1 s2 := ⟨hbw7.drew, (HW3.out.below hb7 hg13 : Wh w7 g1 _ _), hw7⟩
  clear hb7 hw7 hg2 hbw7 HB6 HW3 HB3
  simp only [Act.put]
  refine wp_region_held_drew (S := fun w' => KC w w' w.heap.size g1 g2 s1 s2) (by kernel_rfl) hS0 (fun _ => ?_)
  refine wpAnyH_take (i := 0) (v := .agg (bRow s2)) (List.getElem?_toArray.trans rfl) (by kernel_rfl) (by kernel_rfl) (by kernel_rfl) (fun _ _ _ h => h) (yieldsIf_load_mid (by rfl) 27 (.tmp 2) rfl g2 0 rfl (bRow s2).toList _ (fun w' hS => row_rangeS hS.b2) Tryd.underlying27 rfl (by rw [Array.length_toList]; exact info_bRow HL2.out)) hS0 ?_
  refine act_normS (by simp only [Act.put, List.setIfInBounds_toArray, List.set_cons_zero, List.set_cons_succ]; rfl) ?_
  refine wpAnyH_ready (rs := [1]) (by kernel_rfl) (by simp) (AllReadyH.cons (List.getElem?_toArray.trans rfl) (fun K' hK => ?_) AllReadyH.nil)
  refine wanted_goS rfl ?_
  go_simp
  refine (rise_any 240 10 w7.drew (by omega)).mono ?_
  rintro e w8 ⟨A8, c8, rfl, h8a, h8b, hown8, hb8⟩
  rw [rise_info, show exInfo.length = 10 from rfl] at h8a
  rw [rise_info, show exInfo.length = 10 from rfl] at hown8
  rw [rise_info, show exInfo.length = 10 from rfl]
  have hS1 : KC w w8 w.heap.size g1 g2 s1 s2 := hS0.keep hb8 hww7 hg17 hg27
  have hb8' : Below w7.heap.size w7 w8 := (Below.refl _ _).drew.trans hb8
  have hi8 : Sl w8 w8.heap.size A8 exInfo := Sv.of_own hown8
  clear hb8 hown8
  refine hK.out _ _ hS1 (fun _ => ?_)
  clear hK K'
  refine wpAnyH_ready (rs := [2]) (by kernel_rfl) (by simp) (AllReadyH.cons (List.getElem?_toArray.trans rfl) (fun K' hK => ?_) AllReadyH.nil)
  refine wanted_goS rfl ?_
  go_simp
  refine (expand_any ks s2 exInfo A8 10 c8 42 w8 HKL.out (HKT7.out.below hKb7 hb8') (Nat.lt_of_lt_of_le hKb7 hb8'.size) HL2.out rfl h8a h8b hi8 (by omega)).mono ?_
  rintro e w9 ⟨A9, c9, rfl, h9a, h9b, hown9, hb9⟩
  have hS2 : KC w w9 w.heap.size g1 g2 s1 s2 := hS1.keep (hb9.mono hb8'.size) hww7 hg17 hg27
  obtain ⟨s3, hs3⟩ : ∃ s3, s3 = expI ks s2 exInfo 42 := ⟨_, rfl⟩
  rw [← hs3] at h9a hown9
  rw [← hs3]
  have hs3e : s3 = expK kW exSecret exInfo 42 := by rw [hs3, HS2.out, HKS.out]; rfl
  have hl3 : s3.length = 42 := by rw [hs3e]; exact expK_len _ _ _ _
  have hl3s : strB s3 = { data := #[60, 178, 95, 37, 250, 172, 213, 122, 144, 67, 79, 100, 208, 54, 47, 42, 45, 45, 10, 144, 207, 26, 90, 76, 93, 176, 45, 86, 236, 196, 197, 191, 52, 0, 114, 8, 213, 184, 135, 24, 88, 101] } := by rw [hs3e, exp_ex]; rfl
  rw [hl3] at h9a hown9
  rw [hl3]
  have hs9 : Sl w9 w9.heap.size A9 s3 := Sv.of_own hown9
  clear hs3 hs3e hb9 hown9 hS0 hS1 hb8' hi8
  refine hK.out _ _ hS2 (fun _ => ?_)
  clear hK K'
  refine wpAnyH_ready (rs := [3]) (by kernel_rfl) (by simp) (AllReadyH.cons (List.getElem?_toArray.trans rfl) (fun K' hK => ?_) AllReadyH.nil)
  refine wanted_goS rfl ?_
  go_simp
  refine hK.out _ _ hS2 (fun _ => ?_)
  clear hK K'
  refine wpAnyH_done (by kernel_rfl) ?_ _
  have hstr1 := run_string_sl (P := Tryd.prog) w9 22 9 5 Tryd.underlying22 Tryd.underlying5 Tryd.underlying9 w9.heap.size (some ⟨g1, 0, none⟩) 32 32 s1 (sl_of_wh hS2.b1) HL1.out
  have hstr2 := run_string_sl (P := Tryd.prog) w9 22 9 5 Tryd.underlying22 Tryd.underlying5 Tryd.underlying9 w9.heap.size (some ⟨g2, 0, none⟩) 4 32 (s2.take 4) (by rw [Sl, List.map_take]; exact Sv.take (sl_of_wh hS2.b2) 4) (by rw [List.length_take, HL2.out]; rfl)
  have hstr3 := run_string_sl (P := Tryd.prog) w9 22 9 5 Tryd.underlying22 Tryd.underlying5 Tryd.underlying9 w9.heap.size A9 42 c9 s3 hs9 hl3
  rw [HS1.out] at hstr1
  rw [HS2.out, show strB (exSecret.take 4) = { data := #[7, 119, 9, 54] } from rfl] at hstr2
  rw [hl3s] at hstr3
  have HBF := Lib.hid hS2.bel
  clear hS2 hs9 hl3 hl3s
  go_wp2
  go_ret
  exact ⟨rfl, HBF.out⟩
end Go.Proofs.YtjbhnfgjkibmfaaDoor
