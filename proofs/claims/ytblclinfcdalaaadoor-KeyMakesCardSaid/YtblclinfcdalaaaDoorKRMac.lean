/-
  The document's own MAC, whole.
-/
import Derived.Test.YtblclinfcdalaaaDoorKRef
namespace Go.Proofs.YtblclinfcdalaaaDoor
open Go.RowKit
set_option linter.unusedVariables false

set_option maxRecDepth 100000 in
set_option maxHeartbeats 1600000 in
theorem rmac_any (key text : List UInt8) (A : Option Addr) (n c : Nat) (A2 : Option Addr) (m c2 : Nat) (w : World) (hl : key.length = n) (hlc : n ≤ c) (hcm : c ≤ maxLen) (hs : Sl w w.heap.size A key) (hmax : n ≤ 1000000)
    (hl2 : text.length = m) (hlc2 : m ≤ c2) (hcm2 : c2 ≤ maxLen) (hs2 : Sl w w.heap.size A2 text) (hmax2 : m ≤ 10000000) :
    Calls Tryd.prog 30 #[.slice A n c, .slice A2 m c2] w fun e w' => e = .returned (.agg (bRow (macK kW key text))) ∧ Below w.heap.size w w' := by
  obtain ⟨i0, hi0, hz0, hz1, hz2⟩ := info_parts info8
  have HL := Deep.mk hl
  have HLC := Lib.hid hlc
  have HCM := Lib.hid hcm
  have HL2 := Deep.mk hl2
  have hW0 : Below w.heap.size w (w.alloc (.cells (bRow (List.replicate 32 0)) 22)) := (Below.refl _ _).alloc (Nat.le_refl _) _
  have h2 : Wh (w.alloc (.cells (bRow (List.replicate 32 0)) 22)) w.heap.size 22 (bRow (List.replicate 32 0)) := Wh.new _ _ _
  have HS := Lib.hid ((Sv.below hs hW0).keep hW0.size (fun _ _ => rfl))
  have HS2 := Lib.hid ((Sv.below hs2 hW0).keep hW0.size (fun _ _ => rfl))
  clear hl hs hl2 hs2
  obtain ⟨blk, hblk⟩ : ∃ blk, blk = blockK kW key := ⟨_, rfl⟩
  have HMX : Deep (macK kW key text = sumK kW (mixB blk 92 ++ sumK kW (mixB blk 54 ++ text))) := ⟨by rw [macK, hblk]⟩
  have hbl : blk.length = 64 := by rw [hblk]; exact blockK_len _ _
  have hp1 := fun w' => fun (h : Sl w' w'.heap.size A key) => padded_any key A n c 54 w' HL.out hlc hcm h hmax
  have hp2 := fun w' => fun (h : Sl w' w'.heap.size A key) => padded_any key A n c 92 w' HL.out hlc hcm h hmax
  rw [← hblk] at hp1 hp2
  have HP1 := Lib.hid hp1
  have HP2 := Lib.hid hp2
  have HM54 : Deep ((mixB blk 54).length = 64) := ⟨by rw [mixB_len]; exact hbl⟩
  have HM92 : Deep ((mixB blk 92).length = 64) := ⟨by rw [mixB_len]; exact hbl⟩
  clear hblk hbl hp1 hp2
  go_enter Tryd.func30, Tryd.ntmps30
  go_upto_region 1 with (fail)
  rw [zeros32]
  generalize w.alloc (.cells (bRow (List.replicate 32 0)) 22) = W at *
  obtain ⟨r, hr⟩ : ∃ r, r = w.heap.size := ⟨_, rfl⟩
  rw [← hr] at h2
  rw [← hr]
  have hwr : w.heap.size ≤ r := by omega
  have hrW : r < W.heap.size := h2.lt
  have H2 := Lib.hid h2
  have HW0 := Lib.hid hW0
  have hwW : w.heap.size ≤ W.heap.size := hW0.size
  clear hr h2 hW0
  go_wp2_with fail
  refine (HP1.out W HS.out).mono ?_
  rintro e w1 ⟨A9, c9, rfl, h9a, h9b, hown9, hb1⟩
  rw [HM54.out] at h9a hown9
  rw [HM54.out]
  have HO9 := Lib.hid hown9
  have HB1 := Lib.hid hb1
  have hWw1 : W.heap.size ≤ w1.heap.size := hb1.size
  have HS21 := Lib.hid (Sv.below HS2.out hb1)
  have HTL : Deep ((text.map cell8).length = m) := ⟨by rw [List.length_map]; exact HL2.out⟩
  clear hown9 hb1
  go_wp2_with (at_builtin; refine wpList_append_sv _ rfl (.tmp 9) (.tmp 10) _ rfl W.heap.size 5 i0 _ 1 Tryd.underlying23 hi0 hz0 hz1 hz2 rfl (.slice A9 64 c9) 64 _ rfl HO9.out W.heap.size A2 m c2 (text.map cell8) rfl HS21.out HTL.out (cell8_one _) (by unfold maxLen; omega) (by omega) hWw1 ?_; intro v2 w2 hown2 hg2 hno2; have HO2 := Lib.hid hown2; have HG2 := Lib.hid hg2; clear hown2 hg2 hno2)
  have hb2 : Below W.heap.size W w2 := HB1.out.grown HG2.out hWw1 (fun q hq => (HO9.out.lt q hq).1)
  have hWw2 : W.heap.size ≤ w2.heap.size := hb2.size
  have ho2 := HO2.out
  rw [← List.map_append] at ho2
  obtain ⟨Av, cv, rfl, hva, hvb⟩ := own_form ho2
  obtain ⟨T1, hT1⟩ : ∃ T1, T1 = mixB blk 54 ++ text := ⟨_, rfl⟩
  rw [← hT1] at ho2
  have hT1l : T1.length = 64 + m := by rw [hT1, List.length_append, HM54.out, HL2.out]
  have HSv := Lib.hid (show Sl w2 w2.heap.size Av T1 from Sv.of_own ho2)
  have HB2 := Lib.hid hb2
  have HT1 := Deep.mk hT1
  have HT1L := Deep.mk hT1l
  clear ho2 hT1 hT1l hb2 HO2 HG2 HO9 HB1 HS21 HTL
  refine (rsum_any T1 (64 + m) cv w2.heap.size Av w2 (Nat.le_refl _) HT1L.out HSv.out (by omega)).mono ?_
  rintro e w3 ⟨rfl, hb3⟩
  obtain ⟨inn, hin⟩ : ∃ inn, inn = sumK kW T1 := ⟨_, rfl⟩
  rw [← hin]
  have HIL : Deep (inn.length = 32) := ⟨by rw [hin]; exact sumK_32 _ _⟩
  have HIN := Deep.mk hin
  have HB3 := Lib.hid (HB2.out.trans (hb3.mono hWw2))
  clear hin hb3 HSv HB2 HT1L
  go_upto_region 2 with (refine wpList_store_row rfl 22 (.tmp 5) (.tmp 12) rfl w3.heap.size (bRow inn) rfl rfl _ _ (Wh.new w3 _ _) (info_bRow HIL.out) (by rw [bRow_size, HIL.out]; rfl) (bRow_one _) ?_; rw [World.setRow_alloc_new])
  have hb4 : Below W.heap.size W (w3.alloc (.cells (bRow inn) 22)) := HB3.out.alloc HB3.out.size _
  have hg4 : Wh (w3.alloc (.cells (bRow inn) 22)) w3.heap.size 22 (bRow inn) := Wh.new _ _ _
  obtain ⟨g, hg⟩ : ∃ g, g = w3.heap.size := ⟨_, rfl⟩
  rw [← hg] at hg4
  rw [← hg]
  generalize w3.alloc (.cells (bRow inn) 22) = w4 at *
  have hgw : g < w4.heap.size := hg4.lt
  have HG4 := Lib.hid hg4
  have HB4 := Lib.hid hb4
  have HS4 := Lib.hid ((Sv.below HS.out hb4).keep hb4.size (fun _ _ => rfl))
  have hW4 : W.heap.size ≤ w4.heap.size := hb4.size
  clear hg hg4 hb4 HB3
  go_wp2_with fail
  refine (HP2.out w4 HS4.out).mono ?_
  rintro e w5 ⟨A6, c6, rfl, h6a, h6b, hown6, hb6⟩
  rw [HM92.out] at h6a hown6
  rw [HM92.out]
  have HO6 : Hid (w5.ownsRow w4.heap.size 5 1 (.slice A6 64 c6) (64 + 0) ((mixB blk 92 ++ inn.take 0).map cell8)) := Lib.hid (by simpa using hown6)
  have HB6 := Lib.hid hb6
  clear hown6 hb6
  go_wp2
  go_loopw [6, 7] (fun v i wr => ∃ k : Nat, k ≤ 32 ∧ i = .int .i64 (k : Int) ∧ Hid (wr.ownsRow w4.heap.size 5 1 v (64 + k) ((mixB blk 92 ++ inn.take k).map cell8)) ∧ Hid (Below w4.heap.size w4 wr)) (fun _ i _ => 32 - (intOf i).toNat)
  case atStart => exact ⟨0, by omega, rfl, HO6, HB6⟩
  case round =>
    clear HO6 HB6
    obtain ⟨k, hk, rfl, HO, HB⟩ := hrel
    by_cases hlt : k < 32
    · have hx : wr.cell? ⟨g, k, none⟩ = some (.int .u8 ((inn.getD k 0).toNat : Int)) := by
        rw [(HG4.out.below HB.out hgw).cell, bRow, List.getElem?_toArray, List.getElem?_map, List.getElem?_eq_getElem (by rw [HIL.out]; exact hlt)]
        simp [List.getD, HIL.out, hlt, cell8]
      have HST : Deep ((mixB blk 92 ++ inn.take k).map cell8 ++ [cell8 (inn.getD k 0)] = (mixB blk 92 ++ inn.take (k + 1)).map cell8) := ⟨by rw [take_snoc inn k (by rw [HIL.out]; exact hlt), ← List.append_assoc, List.map_append (l₂ := [inn.getD k 0])]; rfl⟩
      obtain ⟨x, hxx⟩ : ∃ x, x = inn.getD k 0 := ⟨_, rfl⟩
      rw [← hxx] at hx HST
      have t2 : decide ((k : Int) < 32) = true := decide_eq_true (by omega)
      have HOA := Lib.hid (HO.out.alloc (.cells #[Value.int .u8 (x.toNat : Int)] 5))
      have hsz : w4.heap.size ≤ wr.heap.size := HB.out.size
      clear hxx
      go_wp2_with (at_builtin; refine wpList_append_sv _ rfl (.tmp 19) (.tmp 23) _ rfl w4.heap.size 5 i0 _ 1 Tryd.underlying23 hi0 hz0 hz1 hz2 rfl _ (64 + k) _ rfl HOA.out (wr.heap.size + 1) (some ⟨wr.heap.size, 0, none⟩) 1 1 [Value.int .u8 (x.toNat : Int)] rfl (sv_new wr _ _) rfl (fun u hu => by simp at hu; subst hu; rfl) (by unfold maxLen; omega) (by omega) (by simp; omega) ?_; intro v7 w7 hown7 hg7 hno7; have HO7 := Lib.hid hown7; have HG7 := Lib.hid hg7; clear hown7 hg7 hno7)
      have ho7 : w7.ownsRow w4.heap.size 5 1 v7 (64 + (k + 1)) ((mixB blk 92 ++ inn.take (k + 1)).map cell8) := by
        rw [← HST.out, ← Nat.add_assoc]
        exact HO7.out
      have HB7 := Lib.hid ((HB.out.alloc hsz (.cells #[Value.int .u8 (x.toNat : Int)] 5)).grown HG7.out (by simp; omega) (fun q hq => (HOA.out.lt q hq).1))
      exact ⟨⟨k + 1, by omega, by go_num, Lib.hid ho7, HB7⟩, by simp [intOf]; omega⟩
    · have hk32 : k = 32 := by omega
      have ho := HO.out
      rw [hk32, List.take_of_length_le (by rw [HIL.out]; omega)] at ho
      obtain ⟨A5, c5, rfl, h5a, h5b⟩ := own_form HO.out
      rw [hk32] at h5a
      have HLA : Deep ((mixB blk 92 ++ inn).length = 64 + 32) := ⟨by rw [List.length_append, HM92.out, HIL.out]⟩
      rw [hk32] at ho
      have HS5 : Hid (Sl wr wr.heap.size A5 (mixB blk 92 ++ inn)) := Lib.hid (Sv.of_own ho)
      have hb5 : Below W.heap.size W wr := HB4.out.trans (HB.out.mono hW4)
      have HBF := Lib.hid (HW0.out.trans (hb5.mono hwW))
      have HR5 := Lib.hid (H2.out.below hb5 hrW)
      have t2 : decide ((k : Int) < 32) = false := decide_eq_false (by omega)
      have HSM : Deep (macK kW key text = sumK kW (mixB blk 92 ++ inn)) := ⟨by rw [HMX.out, HIN.out, HT1.out]⟩
      have hww5 : w.heap.size ≤ wr.heap.size := Nat.le_trans hwW hb5.size
      subst hk32
      clear HO HB ho hb5 hk hlt
      go_wp2_with fail
      refine (rsum_any (mixB blk 92 ++ inn) (64 + 32) c5 wr.heap.size A5 wr (Nat.le_refl _) HLA.out HS5.out (by omega)).mono ?_
      rintro e w8 ⟨rfl, hb8⟩
      rw [← HSM.out]
      obtain ⟨out, hout⟩ : ∃ out, out = macK kW key text := ⟨_, rfl⟩
      rw [← hout]
      have hol : out.length = 32 := by rw [hout]; exact macK_len _ _ _
      have HRE := Deep.mk hout
      have HR8 := Lib.hid (HR5.out.below hb8 HR5.out.lt)
      have HB8 := Lib.hid (HBF.out.trans (hb8.mono hww5))
      clear hout hb8
      go_wp2_with (refine wpList_store_row rfl 22 (.tmp 4) (.tmp 26) rfl r (bRow out) rfl rfl _ _ HR8.out (info_bRow hol) (by rw [bRow_size, bRow_size, hol]; rfl) (bRow_one _) ?_)
      refine bodyPost_ret (v := .agg (bRow out)) (results_cell_row Tryd.results30 _ _ r _ _ (0, 0) _ rfl (setRow_heap w8 r _ _ _ _ HR8.out) Tryd.underlying22 rfl (info_bRow hol)) rfl ?_
      exact ⟨by rw [HRE.out], below_setRow HB8.out hwr _⟩
end Go.Proofs.YtblclinfcdalaaaDoor
