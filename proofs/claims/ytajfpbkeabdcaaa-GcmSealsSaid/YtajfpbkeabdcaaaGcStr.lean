/-
  gcm.stream.block: the stream's block of a count.
-/
import Derived.Test.YtajfpbkeabdcaaaGcHash
namespace Go.Proofs.Ytajfpbkeabdcaaa
open Go.RowKit
set_option linter.unusedVariables false

/-- A stream's cells: its cipher, its nonce. -/
def sL (g : Nat) (nn : List UInt8) : List Value := .pointer (some ⟨g, 0, none⟩) :: nn.map cell8
def sRow (g : Nat) (nn : List UInt8) : Array Value := (sL g nn).toArray
theorem sL_1 (g : Nat) (nn : List UInt8) : ∀ (j : Nat) (v : Value), (nn.map cell8)[j]? = some v → (sL g nn)[1 + j]? = some v := fun j v h => by
  rw [Nat.add_comm]
  exact h
theorem sRow_n {w : World} {h : Nat} {t : TypeId} {g : Nat} {nn : List UInt8} (hw : Wh w h t (sRow g nn)) : w.rangeAt h 1 (nn.map cell8) := Wh.part hw 1 _ (sL_1 g nn)
theorem sRow_0 (g : Nat) (nn : List UInt8) : (sRow g nn)[0]? = some (.pointer (some ⟨g, 0, none⟩)) := by simp [sRow, sL]
theorem sRow_one (g : Nat) (nn : List UInt8) : (sRow g nn).all (·.oneCell') = true := by
  rw [Array.all_eq_true_iff_forall_mem]
  intro v hv
  simp only [sRow, sL, List.mem_toArray, List.mem_cons] at hv
  rcases hv with rfl | hv
  · rfl
  · exact cell8_one nn v hv
theorem info_s13 : (Try.prog.info? 44).map (·.size) = some 13 := by kernel_rfl
theorem sRow_size {g : Nat} {nn : List UInt8} (h : nn.length = 12) : (sRow g nn).size = 13 := by simp [sRow, sL, h]
theorem info_sRow {g : Nat} {nn : List UInt8} (h : nn.length = 12) : (Try.prog.info? 44).map (·.size) = some (sRow g nn).size := by rw [sRow_size h]; exact info_s13
theorem info_sL {g : Nat} {nn : List UInt8} (h : nn.length = 12) : (Try.prog.info? 44).map (·.size) = some (sL g nn).length := by rw [show (sL g nn).length = 13 by simp [sL, h]]; exact info_s13

/-- The count, laid behind the nonce, behind k bytes of it, the last one first. -/
def ctN (l : List UInt8) (n : Nat) : Nat → List UInt8
  | 0 => l
  | k + 1 => (ctN l n k).set (15 - k) (UInt8.ofNat (n / 256 ^ k % 256))
theorem ctN_len (l : List UInt8) (n k : Nat) : (ctN l n k).length = l.length := by
  induction k with
  | zero => rfl
  | succ k ih => simp [ctN, ih]
def be4 (n : Nat) : List UInt8 := [UInt8.ofNat (n / 16777216 % 256), UInt8.ofNat (n / 65536 % 256), UInt8.ofNat (n / 256 % 256), UInt8.ofNat (n % 256)]
theorem ct_all {nn : List UInt8} (h : nn.length = 12) (n : Nat) : ctN (nn ++ List.replicate 4 0) n 4 = nn ++ be4 n := by
  unfold be4
  rw [ctN, ctN, ctN, ctN, ctN, List.set_append_right _ _ (by omega), List.set_append_right _ _ (by omega), List.set_append_right _ _ (by omega), List.set_append_right _ _ (by omega), h]
  simp
/-- The i-th block of a stream. -/
def stG (ks : List (List UInt8)) (nn : List UInt8) (n : Nat) : List UInt8 := seL ks (nn ++ be4 n)
theorem st_len (ks : List (List UInt8)) (nn : List UInt8) (n : Nat) : (stG ks nn n).length = 16 := seL_len _ _
theorem over_four (nn : List UInt8) (h : nn.length = 12) : ((aRow (List.replicate 16 0)).toList.take 0 ++ (nn.map cell8 ++ (aRow (List.replicate 16 0)).toList.drop (0 + (nn.map cell8).length))).toArray = aRow (nn ++ List.replicate 4 0) := by
  rw [aRow_list, aRow]
  congr 1
  rw [List.take_zero, List.nil_append, Nat.zero_add, List.length_map, List.map_append, ← List.map_drop, List.drop_replicate, h]
theorem byte_cnt (n k : Nat) : ((n / 256 ^ k : Nat) : Int) % 256 = ((UInt8.ofNat (n / 256 ^ k % 256)).toNat : Int) := by
  have e : (UInt8.ofNat (n / 256 ^ k % 256)).toNat = n / 256 ^ k % 256 := by simp
  rw [e, Int.natCast_emod]
  rfl

set_option maxRecDepth 100000 in
set_option maxHeartbeats 400000 in
theorem stblock_any (g : Nat) (ks : List (List UInt8)) (nn : List UInt8) (n : Nat) (w : World) (hk : B11 ks) (hg : Wh w g 57 (aRow ks.flatten)) (hn : nn.length = 12) (hc : n < 4294967296) :
    Calls Try.prog 32 #[.agg (sRow g nn), .int .u32 (n : Int)] w fun e w' => e = .returned (.agg (aRow (stG ks nn n))) ∧ Below w.heap.size w w' := by
  have HN := Deep.mk hn
  have HK := Deep.mk hk
  have hgl := hg.lt
  have HG0 := Lib.hid hg
  clear hn hk hg
  go_enter Try.func32, Try.ntmps32
  go_upto_region 2 with (fail)
  rw [zeros16]
  obtain ⟨hbe, h1, h2, h3⟩ := made3 w (sRow g nn) (aRow (List.replicate 16 0)) (aRow (List.replicate 16 0)) 44 22 22
  generalize ((w.alloc (.cells (sRow g nn) 44)).alloc (.cells (aRow (List.replicate 16 0)) 22)).alloc (.cells (aRow (List.replicate 16 0)) 22) = W at *
  obtain ⟨a, ha⟩ : ∃ a, a = w.heap.size := ⟨_, rfl⟩
  rw [← ha] at h1 h2 h3 ⊢
  obtain ⟨r, hr⟩ : ∃ b', b' = a + 1 := ⟨_, rfl⟩
  rw [← hr] at h2 h3 ⊢
  obtain ⟨m, hm⟩ : ∃ b', b' = r + 1 := ⟨_, rfl⟩
  rw [← hm] at h3 ⊢
  have har : a < r := by omega
  have hrm : r < m := by omega
  have hga : g < a := by omega
  have HA := Lib.hid ha
  have HBE := Lib.hid hbe
  have H1 := Lib.hid h1
  have H2 := Lib.hid h2
  have H3 := Lib.hid h3
  have HGW := Lib.hid (HG0.out.below hbe hgl)
  clear ha hr hm hbe h1 h2 h3 hgl HG0
  have hov := over_four nn HN.out
  obtain ⟨L0, hL0⟩ : ∃ L0, L0 = nn ++ List.replicate 4 0 := ⟨_, rfl⟩
  rw [← hL0] at hov
  have hl0 : L0.length = 16 := by rw [hL0, List.length_append, HN.out]; rfl
  have HFIN : Deep (ctN L0 n 4 = nn ++ be4 n) := ⟨by rw [hL0]; exact ct_all HN.out n⟩
  have HL0 := Deep.mk hl0
  clear hL0 hl0
  have hlx : (nn.map cell8).length = Nat.min 12 16 := by rw [List.length_map, HN.out]; rfl
  have hqx : (nn.map cell8).length = 12 := by rw [List.length_map, HN.out]
  have hsrc : ∀ j v, (nn.map cell8)[j]? = some v → W.drew.cell? ((⟨a, 1, none⟩ : Addr).add j) = some v := fun j v hv => by
    rw [Addr.add_lit]
    exact sRow_n (H1.out.below (Below.refl _ _).drew H1.out.lt) j v hv
  have hm3 : Wh W.drew m 22 (aRow (List.replicate 16 0)) := H3.out.below (Below.refl _ _).drew H3.out.lt
  have HOV := Deep.mk hov
  have HLX := Deep.mk hlx
  have HQX := Deep.mk hqx
  have HSRC := Deep.mk hsrc
  have HM3 := Lib.hid hm3
  clear hov hlx hqx hsrc hm3
  go_region_law (refine step_copy_rowM rfl (.tmp 7) (.tmp 9) 24 24 rfl 5 Try.underlying24 (by kernel_rfl) m 0 16 16 ⟨a, 1, none⟩ 12 12 rfl rfl (aRow (List.replicate 16 0)) _ HM3.out (nn.map cell8) HLX.out HSRC.out (by rw [HQX.out, aRow_size]; decide) (cell8_one nn) 12 HQX.out _ HOV.out ?_)
  have hw4 : Wh (W.drew.setRow m (aRow L0)) m 22 (aRow (ctN L0 n 0)) := setRow_heap W.drew m _ _ _ _ HM3.out
  have hg4 : W.grownBy (W.drew.setRow m (aRow L0)) (some m) := grown_trans (grown_below ((Below.refl _ _).drew)) (grown_setRow W.drew m _)
  have HW4 := Lib.hid hw4
  have HG4 := Lib.hid hg4
  clear hw4 hg4 HM3 HSRC HOV H3
  generalize W.drew.setRow m (aRow L0) = W4 at *
  go_wp2
  go_loopw [1, 6] (fun c i wr => ∃ k j : Nat, k + j = 15 ∧ k ≤ 4 ∧ i = .int .i64 (j : Int) ∧ c = .int .u32 ((n / 256 ^ k : Nat) : Int) ∧ Hid (Wh wr m 22 (aRow (ctN L0 n k))) ∧ Hid (W.grownBy wr (some m))) (fun _ i _ => (intOf i).toNat)
  case atStart => exact ⟨0, 15, rfl, by omega, rfl, by rw [Nat.pow_zero, Nat.div_one], HW4, HG4⟩
  case round =>
    obtain ⟨k, j, hkj, hk, rfl, rfl, HW, HG⟩ := hrel
    clear HW4 HG4
    obtain ⟨c, hc2⟩ : ∃ c, c = n / 256 ^ k := ⟨_, rfl⟩
    have hcl : c < 4294967296 := by rw [hc2]; exact Nat.lt_of_le_of_lt (Nat.div_le_self _ _) hc
    have hbc := byte_cnt n k
    have hnx : c / 256 = n / 256 ^ (k + 1) := by rw [hc2, Nat.div_div_eq_div_mul, Nat.pow_succ]
    rw [← hc2] at hbc ⊢
    obtain ⟨y, hy⟩ : ∃ y, y = UInt8.ofNat (c % 256) := ⟨_, rfl⟩
    rw [← hy] at hbc
    have HC2 := Deep.mk hc2
    have HY := Deep.mk hy
    have HNX := Deep.mk hnx
    have HBC := Deep.mk hbc
    clear hc2 hy hnx hbc
    by_cases hlt : k < 4
    · have hj : 12 ≤ j := by omega
      have hj15 : j ≤ 15 := by omega
      have hd : decide ((j : Int) ≥ 12) = true := by rw [decide_eq_true_iff]; omega
      obtain ⟨u, hu⟩ : ∃ u, wr.cell? ⟨m, j, none⟩ = some (.int .u8 ((u : UInt8).toNat : Int)) := ⟨_, (HW.out.cell j).trans (aRow_at (by rw [ctN_len, HL0.out]; omega))⟩
      have hf := HW.out.frozen j
      have HKJ : Deep (15 - k = j) := ⟨by omega⟩
      have HK4 := Lib.hid hlt
      clear hkj hlt
      go_wp2
      have h1 := HW.out.put j (.int .u8 ((c : Int) % 256))
      have g1 := grown_set wr m j (.int .u8 ((c : Int) % 256))
      rw [HBC.out, aRow_set] at h1
      refine ⟨⟨k + 1, j - 1, by have := HKJ.out; have := HK4.out; omega, by have := HK4.out; omega, by congr 1; omega, by rw [← HNX.out]; rfl, ?_, Lib.hid (grown_trans HG.out g1)⟩, by simp [intOf]; omega⟩
      rw [ctN, HKJ.out, ← HC2.out, ← HY.out]
      rw [HBC.out]
      exact Lib.hid h1
    · have hj : j = 11 := by omega
      have hk4 : k = 4 := by omega
      have hd : decide ((j : Int) ≥ 12) = false := by rw [decide_eq_false_iff_not]; omega
      obtain ⟨z, hz⟩ : ∃ z, z = nn ++ be4 n := ⟨_, rfl⟩
      have HZL : Deep (z.length = 16) := ⟨by rw [hz, List.length_append, HN.out]; rfl⟩
      have HWN : Hid (Wh wr m 22 (aRow z)) := by
        have h := HW.out
        rw [hk4, HFIN.out, ← hz] at h
        exact Lib.hid h
      have HRR : Hid (Wh wr r 22 (aRow (List.replicate 16 0))) := Lib.hid (H2.out.grown HG.out (by intro e; have := Option.some.inj e; omega))
      have hAW : Wh wr a 44 (sRow g nn) := H1.out.grown HG.out (by intro e; have := Option.some.inj e; omega)
      have hGW : Wh wr g 57 (aRow ks.flatten) := HGW.out.grown HG.out (by intro e; have := Option.some.inj e; omega)
      have hc0 := (hAW.cell 0).trans (sRow_0 g nn)
      have HBW := Lib.hid (below_grown HBE.out HG.out (by rw [← HA.out]; omega) HBE.out.size)
      have hwr : w.heap.size ≤ r := by rw [← HA.out]; omega
      have HGW2 := Lib.hid hGW
      have HZ : Deep (seL ks z = stG ks nn n) := ⟨by rw [hz]; rfl⟩
      clear HW HG hlt hkj hk hk4 hz hAW hGW
      go_wp2_with (first
        | (refine wpList_load_blk rfl (.tmp 5) rfl m 0 rfl z HZL.out (Wh.range HWN.out) ?_))
      refine (seal_any g ks z _ HK.out HGW2.out HZL.out).mono ?_
      rintro e w5 ⟨rfl, hb5⟩
      have HR5 := Lib.hid (HRR.out.below hb5 HRR.out.lt)
      have HB5 := Lib.hid (HBW.out.trans (hb5.mono HBW.out.size))
      obtain ⟨q, hq⟩ : ∃ q, q = seL ks z := ⟨_, rfl⟩
      have HQL : Deep (q.length = 16) := ⟨by rw [hq]; exact seL_len _ _⟩
      rw [HZ.out] at hq
      have HQ := Deep.mk hq
      rw [HZ.out, ← hq]
      clear hb5 hq hc0
      go_wp2_with (first
        | (refine wpList_store_row rfl 22 (.tmp 4) (.tmp 24) rfl r (aRow q) rfl rfl _ _ HR5.out (info_aRow HQL.out) (by rw [aRow_size, aRow_size, HQL.out]; rfl) (aRow_one _) ?_))
      refine bodyPost_ret (v := .agg (aRow q)) (results_cell_row Try.results32 _ _ r _ _ (0, 0) _ rfl (setRow_heap w5 r _ _ _ _ HR5.out) Try.underlying22 rfl (info_aRow HQL.out)) rfl ?_
      exact ⟨by rw [HQ.out], below_setRow HB5.out hwr _⟩
end Go.Proofs.Ytajfpbkeabdcaaa
