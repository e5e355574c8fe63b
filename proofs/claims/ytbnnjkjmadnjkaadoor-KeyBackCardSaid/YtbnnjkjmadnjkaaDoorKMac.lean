/-
  kdf.Mac, kdf.Extract.
-/
import Derived.Test.YtbnnjkjmadnjkaaDoorKBlock
namespace Go.Proofs.YtbnnjkjmadnjkaaDoor
open Go.RowKit
set_option linter.unusedVariables false

theorem info_s8 : (Tryd.prog.info? 28).map (fun i => (i.zero, i.size, i.bytes)) = some (some (.slice none 0 0), 1, 24) := by kernel_rfl

/-- A list of texts in memory. -/
def PartsAt (w : World) (B : Nat) (vs : List Value) (ps : List (List UInt8)) : Prop :=
  vs.length = ps.length ∧ ∀ (i : Nat) (v : Value) (l : List UInt8), vs[i]? = some v → ps[i]? = some l → ∃ A c, v = .slice A l.length c ∧ l.length ≤ c ∧ c ≤ maxLen ∧ Sl w B A l
theorem PartsAt.keep {w w' : World} {B B' : Nat} {vs : List Value} {ps : List (List UInt8)} (h : PartsAt w B vs ps) (hb : Below B w w') (hB : B ≤ B') : PartsAt w' B' vs ps :=
  ⟨h.1, fun i v l hv hl => by
    obtain ⟨A, c, h1, h2, h3, h4⟩ := h.2 i v l hv hl
    exact ⟨A, c, h1, h2, h3, Sv.keep (Sv.below h4 hb) hB (fun _ _ => rfl)⟩⟩
theorem PartsAt.cons {w : World} {B : Nat} {vs : List Value} {ps : List (List UInt8)} (h : PartsAt w B vs ps) {A : Option Addr} {n c : Nat} {l : List UInt8} (hn : l.length = n) (h1 : n ≤ c) (h2 : c ≤ maxLen) (h3 : Sl w B A l) : PartsAt w B (.slice A n c :: vs) (l :: ps) := by
  subst hn
  refine ⟨by simp [h.1], fun i v m hv hm => ?_⟩
  rcases i with _ | i
  · obtain rfl := Option.some.inj hv
    obtain rfl := Option.some.inj hm
    exact ⟨A, c, rfl, h1, h2, h3⟩
  · exact h.2 i v m hv hm
theorem PartsAt.nil (w : World) (B : Nat) : PartsAt w B [] [] := ⟨rfl, fun i v l hv => by cases hv⟩
theorem parts_one {w : World} {B : Nat} {vs : List Value} {ps : List (List UInt8)} (h : PartsAt w B vs ps) : ∀ u ∈ vs, u.oneCell' = true := by
  intro u hu
  obtain ⟨i, hi, rfl⟩ := List.getElem_of_mem hu
  obtain ⟨A, c, h1, _⟩ := h.2 i vs[i] (ps[i]'(by rw [← h.1]; exact hi)) (List.getElem?_eq_getElem hi) (List.getElem?_eq_getElem _)
  rw [h1]
  rfl

/-- What stands while the last region is under way. -/
structure MC (w0 wr : World) (B r g5 g7 : Nat) (blk sum : List UInt8) : Prop where
  bel : Below B w0 wr
  b5 : Wh wr g5 124 (bRow blk)
  b7 : Wh wr g7 22 (bRow sum)
  b4 : ∃ R : List UInt8, R.length = 32 ∧ Wh wr r 22 (bRow R)

theorem MC.keep {w0 wr wr' : World} {B r g5 g7 M : Nat} {blk sum : List UInt8} (h : MC w0 wr B r g5 g7 blk sum) (hb : Below M wr wr') (hB : B ≤ M) (hr : r < M) (h5 : g5 < M) (h7 : g7 < M) : MC w0 wr' B r g5 g7 blk sum :=
  ⟨h.bel.trans (hb.mono hB), h.b5.below hb h5, h.b7.below hb h7, (by obtain ⟨R, h1, h2⟩ := h.b4; exact ⟨R, h1, h2.below hb hr⟩)⟩
theorem MC.store {w0 wr : World} {B r g5 g7 : Nat} {blk sum R out : List UInt8} (h : MC w0 wr B r g5 g7 blk sum) (hR : Wh wr r 22 (bRow R)) (hl : out.length = 32) (hB : B ≤ r) (h5 : r ≠ g5) (h7 : r ≠ g7) : MC w0 (wr.setRow r (bRow out)) B r g5 g7 blk sum :=
  ⟨below_setRow h.bel hB _, (setRow_other wr r g5 _ (fun e => h5 e.symm)).trans h.b5, (setRow_other wr r g7 _ (fun e => h7 e.symm)).trans h.b7, out, hl, setRow_heap wr r _ _ _ _ hR⟩
set_option maxRecDepth 100000 in
theorem run_all32 (g : Nat) (w : World) : (Instr.sliceAt 22 (.pointer (some ⟨g, 0, none⟩)) none none none).run Tryd.prog w = .ok (.slice (some ⟨g, 0, none⟩) 32 32) w := by
  rfl

set_option maxRecDepth 100000 in
set_option maxHeartbeats 800000 in
theorem mac_any (ks : List W32) (key : List UInt8) (Ak : Option Addr) (n ck : Nat) (ps : List (List UInt8)) (vs : List Value) (A : Option Addr) (len c : Nat) (w : World) (hks : ks.length = 64) (hK : KT w ks) (hKb : 0 < w.heap.size)
    (hl : key.length = n) (hlc : n ≤ ck) (hcm : ck ≤ maxLen) (hs : Sl w w.heap.size Ak key) (hmax : n ≤ 16000000)
    (hA : Sv w w.heap.size A vs) (hvl : vs.length = len) (hlen : len ≤ 1000000000000) (hP : PartsAt w w.heap.size vs ps) (hpm : ps.flatten.length ≤ 15000000) :
    Calls Tryd.prog 55 #[.slice Ak n ck, .slice A len c] w fun e w' => e = .returned (.agg (bRow (macK ks key ps.flatten))) ∧ Below w.heap.size w w' := by
  obtain ⟨i0, hi0, hz0, hz1, hz2⟩ := info_parts info_s8
  have HKS := Lib.hid hks
  have HL := Lib.hid hl
  have HLC := Lib.hid hlc
  have HCM := Lib.hid hcm
  have HV := Lib.hid hvl
  have HPM := Lib.hid hpm
  have hW0 : Below w.heap.size w (w.alloc (.cells (bRow (List.replicate 32 0)) 22)) := (Below.refl _ _).alloc (Nat.le_refl _) _
  have h2 : Wh (w.alloc (.cells (bRow (List.replicate 32 0)) 22)) w.heap.size 22 (bRow (List.replicate 32 0)) := Wh.new _ _ _
  have HKW := Lib.hid (hK.below hKb hW0)
  have HSW := Lib.hid ((Sv.below hs hW0).keep hW0.size (fun _ _ => rfl))
  have HAW := Lib.hid ((Sv.below hA hW0).keep hW0.size (fun _ _ => rfl))
  have HPW := Lib.hid (hP.keep hW0 hW0.size)
  clear hks hK hl hs hA hvl hP hpm
  go_enter Tryd.func55, Tryd.ntmps55
  go_upto_region 1 with (fail)
  rw [zeros32]
  generalize w.alloc (.cells (bRow (List.replicate 32 0)) 22) = W at *
  obtain ⟨r, hr⟩ : ∃ r, r = w.heap.size := ⟨_, rfl⟩
  rw [← hr] at h2
  rw [← hr]
  have hwr : w.heap.size ≤ r := by omega
  have hrW : r < W.heap.size := h2.lt
  have HR := Lib.hid hr
  have H2 := Lib.hid h2
  have HW0 := Lib.hid hW0
  have hKbW : 0 < W.heap.size := Nat.lt_of_lt_of_le hKb hW0.size
  have hwW : w.heap.size ≤ W.heap.size := hW0.size
  clear hr h2 hW0
  go_wp2_with fail
  refine (keysblock_any ks key Ak n ck W HKS.out HKW.out hKbW HL.out HLC.out HCM.out HSW.out hmax).mono ?_
  rintro e w1 ⟨rfl, hb1⟩
  obtain ⟨blk, hblk⟩ : ∃ blk, blk = blockK ks key := ⟨_, rfl⟩
  rw [← hblk]
  have hbl : blk.length = 64 := by rw [hblk]; exact blockK_len _ _
  have HBLK := Deep.mk hblk
  have HBL := Deep.mk hbl
  have HB1 := Lib.hid hb1
  clear hblk hbl hb1
  go_upto_region 2 with (refine wpList_store_row rfl 124 (.tmp 5) (.tmp 9) rfl w1.heap.size (bRow blk) rfl rfl _ _ (Wh.new w1 _ _) (info_bRow64 HBL.out) (by rw [bRow_size, HBL.out]; rfl) (bRow_one _) ?_; rw [World.setRow_alloc_new])
  have hB2 : Below W.heap.size W (w1.alloc (.cells (bRow blk) 124)) := HB1.out.alloc HB1.out.size _
  have hg5 : Wh (w1.alloc (.cells (bRow blk) 124)) w1.heap.size 124 (bRow blk) := Wh.new _ _ _
  have hW1 : W.heap.size ≤ w1.heap.size := HB1.out.size
  obtain ⟨g5, hg⟩ : ∃ g5, g5 = w1.heap.size := ⟨_, rfl⟩
  rw [← hg] at hg5 hW1
  rw [← hg]
  generalize w1.alloc (.cells (bRow blk) 124) = w2 at *
  have hg52 : g5 < w2.heap.size := hg5.lt
  have HG5 := Lib.hid hg5
  have HB2 := Lib.hid hB2
  clear hg hg5 hB2 HB1
  go_wp2_with (refine wpList_load_row rfl 124 (.tmp 5) rfl g5 rfl _ (bRow blk) _ _ HG5.out Tryd.underlying124 rfl (info_bRow64 HBL.out) ?_)
  refine (mixed_any blk 54 w2 HBL.out).mono ?_
  rintro e w3 ⟨rfl, hm3, hb3⟩
  obtain ⟨m1, hm1⟩ : ∃ m1, m1 = mixB blk 54 := ⟨_, rfl⟩
  rw [← hm1] at hm3
  have hml : m1.length = 64 := by rw [hm1, mixB_len]; exact HBL.out
  obtain ⟨g11, hg⟩ : ∃ g11, g11 = w2.heap.size := ⟨_, rfl⟩
  rw [← hg] at hm3
  rw [← hg]
  have HM3 := Lib.hid hm3
  have HB3 := Lib.hid hb3
  have HM1 := Deep.mk hm1
  have HML := Deep.mk hml
  have h23 : w2.heap.size ≤ w3.heap.size := hb3.size
  have hW2 : W.heap.size ≤ w2.heap.size := HB2.out.size
  have HO3 := Lib.hid (own_of_wh (l := [Value.slice (some ⟨g11, 0, none⟩) 64 64]) (Wh.new w3 28 _) w3.heap.size 1 1 (Nat.le_refl _) rfl (Nat.le_refl _) (by unfold maxLen; omega))
  have hbm : Below w3.heap.size w3 (w3.alloc (.cells [Value.slice (some ⟨g11, 0, none⟩) 64 64].toArray 28)) := (Below.refl _ _).alloc (Nat.le_refl _) _
  have HS3 := Lib.hid ((((HAW.out.below HB2.out).keep hW2 (fun _ _ => rfl)).below hb3).below (hbm.mono h23))
  have HBM := Lib.hid hbm
  clear hm3 hb3 hm1 hml hg hbm
  go_upto_region 3 with (refine wpList_append_sv _ rfl (.tmp 12) (.tmp 13) _ rfl w3.heap.size 28 i0 _ 24 Tryd.underlying123 hi0 hz0 hz1 hz2 rfl (.slice (some ⟨w3.heap.size, 0, none⟩) 1 1) 1 [Value.slice (some ⟨g11, 0, none⟩) 64 64] rfl HO3.out w2.heap.size A len c vs rfl HS3.out HV.out (parts_one HPW.out) (by unfold maxLen; omega) (by omega) (by simp) ?_; intro v6 w4 hown4 hg4 hat4; have HO4 := Lib.hid hown4; have HG4 := Lib.hid hg4; clear hown4 hg4 hat4)
  obtain ⟨A4, c4, rfl, h4a, h4b⟩ := own_form HO4.out
  have hb4 : Below w3.heap.size w3 w4 := HBM.out.grown HG4.out (by simp) (fun q hq => by simp [Value.ownBlock] at hq; omega)
  have hb24 : Below w2.heap.size w2 w4 := HB3.out.trans (hb4.mono h23)
  have hbW4 : Below W.heap.size W w4 := HB2.out.trans (hb24.mono hW2)
  have HSV4 := Lib.hid (Sv.of_own HO4.out)
  have hm4 : Wh w4 g11 124 (bRow m1) := HM3.out.below hb4 HM3.out.lt
  have HP4 : Hid (PartsAt w4 w4.heap.size (.slice (some ⟨g11, 0, none⟩) 64 64 :: vs) (m1 :: ps)) := Lib.hid ((HPW.out.keep hbW4 hbW4.size).cons HML.out (Nat.le_refl _) (by unfold maxLen; omega) (sl_of_wh hm4))
  have HB4 := Lib.hid hb24
  have HBW4 := Lib.hid hbW4
  have HK4 := Lib.hid (HKW.out.below hKbW hbW4)
  have hKb4 : 0 < w4.heap.size := Nat.lt_of_lt_of_le hKbW hbW4.size
  have hfl : (m1 :: ps).flatten.length ≤ 16000000 := by
    rw [List.flatten_cons, List.length_append, HML.out]
    have := HPM.out
    omega
  have HFL := Lib.hid hfl
  clear hb4 hb24 hbW4 hm4 hfl HBM HG4 HO3 HS3 HB3 HM3
  go_wp2_with fail
  refine (sum_any ks (m1 :: ps) (.slice (some ⟨g11, 0, none⟩) 64 64 :: vs) A4 (1 + len) c4 w4 HKS.out HK4.out hKb4 HSV4.out (by rw [List.length_cons, HV.out]; omega) h4a h4b HP4.out HFL.out).mono ?_
  rintro e w5 ⟨rfl, hb5⟩
  obtain ⟨inn, hin⟩ : ∃ inn, inn = sumK ks (m1 :: ps).flatten := ⟨_, rfl⟩
  rw [← hin]
  have hil : inn.length = 32 := by rw [hin]; exact sumK_32 _ _
  have HIN := Deep.mk hin
  have HIL := Deep.mk hil
  have HB5 := Lib.hid hb5
  clear hb5 hin hil
  go_upto_region 4 with (refine wpList_store_row rfl 22 (.tmp 7) (.tmp 16) rfl w5.heap.size (bRow inn) rfl rfl _ _ (Wh.new w5 _ _) (info_bRow HIL.out) (by rw [bRow_size, HIL.out]; rfl) (bRow_one _) ?_; rw [World.setRow_alloc_new])
  have hB6 : Below w4.heap.size w4 (w5.alloc (.cells (bRow inn) 22)) := HB5.out.alloc HB5.out.size _
  have hg7 : Wh (w5.alloc (.cells (bRow inn) 22)) w5.heap.size 22 (bRow inn) := Wh.new _ _ _
  obtain ⟨g7, hg⟩ : ∃ g7, g7 = w5.heap.size := ⟨_, rfl⟩
  rw [← hg] at hg7
  rw [← hg]
  generalize w5.alloc (.cells (bRow inn) 22) = w6 at *
  have hg7W : W.heap.size ≤ g7 := by
    have h1 := HB5.out.size
    have h2 := HBW4.out.size
    omega
  have hbW6 : Below W.heap.size W w6 := HBW4.out.trans (hB6.mono HBW4.out.size)
  have hg56 : Wh w6 g5 124 (bRow blk) := (HG5.out.below HB4.out hg52).below hB6 (Nat.lt_of_lt_of_le hg52 HB4.out.size)
  have hr6 : Wh w6 r 22 (bRow (List.replicate 32 0)) := H2.out.below hbW6 hrW
  have hbw6 : Below w.heap.size w w6 := HW0.out.trans (hbW6.mono hwW)
  have HK6 := Lib.hid (HKW.out.below hKbW hbW6)
  have hKb6 : 0 < w6.heap.size := Nat.lt_of_lt_of_le hKbW hbW6.size
  have h76 : g7 < w6.heap.size := hg7.lt
  have h56 : g5 < w6.heap.size := hg56.lt
  have hrr6 : r < w6.heap.size := hr6.lt
  have hS0 : MC w w6.drew w.heap.size r g5 g7 blk inn := ⟨hbw6.drew, hg56, hg7, _, by simp, hr6⟩
  have HS0' := Lib.hid hbw6
  clear hB6 hg hbW6 hg56 hr6 hbw6 hg7 HB5 HK4 HP4 HSV4 HB4 HBW4 HFL HO4
  have HMX : Deep (macK ks key ps.flatten = sumK ks [mixB blk 92, inn].flatten) := ⟨by
    rw [macK, ← HBLK.out, HIN.out, HM1.out]
    simp⟩
  have hml2 : (mixB blk 92).length = 64 := by rw [mixB_len]; exact HBL.out
  have HML2 := Deep.mk hml2
  clear hml2
  simp only [Act.put]
  refine wp_region_held_drew (S := fun w' => MC w w' w.heap.size r g5 g7 blk inn) (by kernel_rfl) hS0 (fun _ => ?_)
  refine wpAnyH_take (i := 2) (v := .slice (some ⟨g7, 0, none⟩) 32 32) (List.getElem?_toArray.trans rfl) (by kernel_rfl) (by kernel_rfl) (by kernel_rfl) (fun _ _ _ h => h) (yieldsIf_slice rfl 22 (.tmp 7) none none none rfl _ (fun w' _ => run_all32 g7 w')) hS0 ?_
  refine act_normS (by simp only [Act.put, List.setIfInBounds_toArray, List.set_cons_zero, List.set_cons_succ]; rfl) ?_
  refine wpAnyH_take (i := 0) (v := .agg (bRow blk)) (List.getElem?_toArray.trans rfl) (by kernel_rfl) (by kernel_rfl) (by kernel_rfl) (fun _ _ _ h => h) (yieldsIf_load_mid (by rfl) 124 (.tmp 5) rfl g5 0 rfl (bRow blk).toList _ (fun w' hS => row_rangeS hS.b5) Tryd.underlying124 rfl (by rw [Array.length_toList]; exact info_bRow64 HBL.out)) hS0 ?_
  refine act_normS (by simp only [Act.put, List.setIfInBounds_toArray, List.set_cons_zero, List.set_cons_succ]; rfl) ?_
  refine wpAnyH_ready (rs := [1]) (by kernel_rfl) (by simp) (AllReadyH.cons (List.getElem?_toArray.trans rfl) (fun K' hK => ?_) AllReadyH.nil)
  refine wanted_goS rfl ?_
  go_simp
  refine (mixed_any blk 92 w6.drew HBL.out).mono ?_
  rintro e w7 ⟨rfl, hm7, hb7⟩
  have hS1 : MC w w7 w.heap.size r g5 g7 blk inn := hS0.keep hb7 (Nat.le_trans hwr (Nat.le_of_lt hrr6)) hrr6 h56 h76
  have hb7' : Below w6.heap.size w6 w7 := (Below.refl _ _).drew.trans hb7
  have HB7 := Lib.hid hb7'
  have HM7 := Lib.hid hm7
  clear hb7 hm7 hb7'
  refine hK.out _ _ hS1 (fun _ => ?_)
  clear hK K'
  refine wpAnyH_ready (rs := [3]) (by kernel_rfl) (by simp) (AllReadyH.cons (List.getElem?_toArray.trans rfl) (fun K' hK => ?_) AllReadyH.nil)
  refine wanted_goS rfl ?_
  go_simp
  have hS2 : MC w (w7.alloc (.cells #[.slice (some ⟨w6.heap.size, 0, none⟩) 64 64, .slice (some ⟨g7, 0, none⟩) 32 32] 28)) w.heap.size r g5 g7 blk inn := ⟨hS1.bel.alloc hS1.bel.size _, hS1.b5.alloc _, hS1.b7.alloc _, (by obtain ⟨R, h1, h2⟩ := hS1.b4; exact ⟨R, h1, h2.alloc _⟩)⟩
  refine hK.out _ _ hS2 (fun _ => ?_)
  clear hK K'
  refine wpAnyH_ready (rs := [4]) (by kernel_rfl) (by simp) (AllReadyH.cons (List.getElem?_toArray.trans rfl) (fun K' hK => ?_) AllReadyH.nil)
  refine wanted_goS rfl ?_
  go_simp
  refine (sum_of ks [mixB blk 92, inn] [.slice (some ⟨w6.heap.size, 0, none⟩) 64 64, .slice (some ⟨g7, 0, none⟩) 32 32] 2 w7 HKS.out (HK6.out.below hKb6 HB7.out) (Nat.lt_of_lt_of_le hKb6 HB7.out.size) rfl (by omega) ((((PartsAt.nil w7 w7.heap.size).cons HIL.out (Nat.le_refl _) (by unfold maxLen; omega) (sl_of_wh hS1.b7)).cons HML2.out (Nat.le_refl _) (by unfold maxLen; omega) (sl_of_wh HM7.out))) (by simp [HML2.out, HIL.out])).mono ?_
  rintro e w8 ⟨rfl, hb8⟩
  have hS3 : MC w w8 w.heap.size r g5 g7 blk inn := hS1.keep (hb8.mono HB7.out.size) (Nat.le_trans hwr (Nat.le_of_lt hrr6)) hrr6 h56 h76
  rw [← HMX.out]
  clear hb8 hS2 hS1 hS0
  refine hK.out _ _ hS3 (fun _ => ?_)
  clear hK K'
  obtain ⟨out, hout⟩ : ∃ out, out = macK ks key ps.flatten := ⟨_, rfl⟩
  rw [← hout]
  have hol : out.length = 32 := by rw [hout]; exact macK_len _ _ _
  obtain ⟨R, hR1, hR2⟩ := hS3.b4
  refine wpAnyH_ready (rs := [5]) (by kernel_rfl) (by simp) (AllReadyH.cons (List.getElem?_toArray.trans rfl) (fun K' hK => ?_) AllReadyH.nil)
  refine wanted_goS rfl ?_
  refine wp_store_row 22 (.tmp 4) (.tmp 21) rfl r (bRow out) rfl rfl _ _ hR2 (info_bRow hol) (by rw [bRow_size, bRow_size, hol, hR1]) (bRow_one _) ?_
  have hS4 : MC w (w8.setRow r (bRow out)) w.heap.size r g5 g7 blk inn := hS3.store hR2 hol hwr (by omega) (by omega)
  refine hK.out _ _ hS4 (fun _ => ?_)
  clear hK K'
  refine wpAnyH_done (by kernel_rfl) ?_ _
  have hfin := hS4.bel
  have hrow : (w8.setRow r (bRow out)).heap[r]? = some (.cells (bRow out) 22 (0, 0)) := setRow_heap w8 r _ _ _ _ hR2
  generalize w8.setRow r (bRow out) = w9 at *
  go_wp2
  refine bodyPost_ret (v := .agg (bRow out)) (results_cell_row Tryd.results55 _ _ r _ _ (0, 0) _ rfl hrow Tryd.underlying22 rfl (info_bRow hol)) rfl ?_
  exact ⟨by rw [hout], hfin⟩

set_option maxRecDepth 100000 in
set_option maxHeartbeats 400000 in
/-- One text, or some that the call has just laid. -/
theorem mac_of (ks : List W32) (key : List UInt8) (Ak : Option Addr) (n ck : Nat) (ps : List (List UInt8)) (vs : List Value) (len : Nat) (w : World) (hks : ks.length = 64) (hK : KT w ks) (hKb : 0 < w.heap.size)
    (hl : key.length = n) (hlc : n ≤ ck) (hcm : ck ≤ maxLen) (hs : Sl w w.heap.size Ak key) (hmax : n ≤ 16000000)
    (hvl : vs.length = len) (hlen : len ≤ 1000000000000) (hP : PartsAt w w.heap.size vs ps) (hpm : ps.flatten.length ≤ 15000000) :
    Calls Tryd.prog 55 #[.slice Ak n ck, .slice (some ⟨w.heap.size, 0, none⟩) len len] (w.alloc (.cells vs.toArray 28)) fun e w' => e = .returned (.agg (bRow (macK ks key ps.flatten))) ∧ Below w.heap.size w w' := by
  have hb : Below w.heap.size w (w.alloc (.cells vs.toArray 28)) := (Below.refl _ _).alloc (Nat.le_refl _) _
  have hA : Sv (w.alloc (.cells vs.toArray 28)) (w.alloc (.cells vs.toArray 28)).heap.size (some ⟨w.heap.size, 0, none⟩) vs := by
    intro _
    refine ⟨w.heap.size, 0, rfl, by simp, fun i v hv => ?_⟩
    rw [Nat.zero_add, (Wh.new w 28 vs.toArray).cell, List.getElem?_toArray]
    exact hv
  refine (mac_any ks key Ak n ck ps vs _ len len _ hks (hK.below hKb hb) (Nat.lt_of_lt_of_le hKb hb.size) hl hlc hcm ((Sv.below hs hb).keep hb.size (fun _ _ => rfl)) hmax hA hvl hlen (hP.keep hb hb.size) hpm).mono ?_
  rintro e w' ⟨rfl, h⟩
  exact ⟨rfl, hb.trans (h.mono hb.size)⟩

set_option maxRecDepth 100000 in
set_option maxHeartbeats 400000 in
theorem extract_any (ks : List W32) (key ikm : List UInt8) (Ak : Option Addr) (n ck : Nat) (A : Option Addr) (m c : Nat) (w : World) (hks : ks.length = 64) (hK : KT w ks) (hKb : 0 < w.heap.size)
    (hl : key.length = n) (hlc : n ≤ ck) (hcm : ck ≤ maxLen) (hs : Sl w w.heap.size Ak key) (hmax : n ≤ 16000000)
    (hl2 : ikm.length = m) (hlc2 : m ≤ c) (hcm2 : c ≤ maxLen) (hs2 : Sl w w.heap.size A ikm) (hmax2 : m ≤ 15000000) :
    Calls Tryd.prog 35 #[.slice Ak n ck, .slice A m c] w fun e w' => e = .returned (.agg (bRow (macK ks key ikm))) ∧ Below w.heap.size w w' := by
  have HKS := Lib.hid hks
  have HL := Lib.hid hl
  have HLC := Lib.hid hlc
  have HCM := Lib.hid hcm
  have HL2 := Lib.hid hl2
  have HLC2 := Lib.hid hlc2
  have HCM2 := Lib.hid hcm2
  have hW0 : Below w.heap.size w (w.alloc (.cells (bRow (List.replicate 32 0)) 22)) := (Below.refl _ _).alloc (Nat.le_refl _) _
  have h2 : Wh (w.alloc (.cells (bRow (List.replicate 32 0)) 22)) w.heap.size 22 (bRow (List.replicate 32 0)) := Wh.new _ _ _
  have HKW := Lib.hid (hK.below hKb hW0)
  have HSW := Lib.hid ((Sv.below hs hW0).keep hW0.size (fun _ _ => rfl))
  have HS2 := Lib.hid ((Sv.below hs2 hW0).keep hW0.size (fun _ _ => rfl))
  clear hks hK hl hs hl2 hs2
  go_enter Tryd.func35, Tryd.ntmps35
  go_upto_region 1 with (fail)
  rw [zeros32]
  generalize w.alloc (.cells (bRow (List.replicate 32 0)) 22) = W at *
  obtain ⟨r, hr⟩ : ∃ r, r = w.heap.size := ⟨_, rfl⟩
  rw [← hr] at h2
  rw [← hr]
  have hwr : w.heap.size ≤ r := by omega
  have hrW : r < W.heap.size := h2.lt
  have HR := Lib.hid hr
  have H2 := Lib.hid h2
  have HW0 := Lib.hid hW0
  have hKbW : 0 < W.heap.size := Nat.lt_of_lt_of_le hKb hW0.size
  have hwW : w.heap.size ≤ W.heap.size := hW0.size
  clear hr h2 hW0
  go_wp2_with fail
  refine (mac_of ks key Ak n ck [ikm] [.slice A m c] 1 W HKS.out HKW.out hKbW HL.out HLC.out HCM.out HSW.out hmax rfl (by omega) ((PartsAt.nil W W.heap.size).cons HL2.out HLC2.out HCM2.out HS2.out) (by simp only [List.flatten_cons, List.flatten_nil, List.append_nil, HL2.out]; omega)).mono ?_
  rintro e w1 ⟨rfl, hb1⟩
  obtain ⟨out, hout⟩ : ∃ out, out = macK ks key [ikm].flatten := ⟨_, rfl⟩
  rw [← hout]
  have hol : out.length = 32 := by rw [hout]; exact macK_len _ _ _
  have HOUT : Deep (out = macK ks key ikm) := ⟨by rw [hout]; simp⟩
  have HR1 := Lib.hid (H2.out.below hb1 hrW)
  have HB1 := Lib.hid (HW0.out.trans (hb1.mono hwW))
  clear hout hb1
  go_wp2_with (refine wpList_store_row rfl 22 (.tmp 4) (.tmp 8) rfl r (bRow out) rfl rfl _ _ HR1.out (info_bRow hol) (by rw [bRow_size, bRow_size, hol]; rfl) (bRow_one _) ?_)
  refine bodyPost_ret (v := .agg (bRow out)) (results_cell_row Tryd.results35 _ _ r _ _ (0, 0) _ rfl (setRow_heap w1 r _ _ _ _ HR1.out) Tryd.underlying22 rfl (info_bRow hol)) rfl ?_
  exact ⟨by rw [HOUT.out], below_setRow HB1.out hwr _⟩
end Go.Proofs.YtbnnjkjmadnjkaaDoor
