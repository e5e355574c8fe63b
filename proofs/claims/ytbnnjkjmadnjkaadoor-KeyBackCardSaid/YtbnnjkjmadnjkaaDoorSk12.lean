/-
  sha.state's bytes.
  sha.Sum: the sum of texts, one behind the other.
-/
import Derived.IntWalk
import Derived.Deep.DeepCutAuto
import Derived.Deep.WholeRow
import Derived.Laws.CopyOwn
import Derived.Test.YtbnnjkjmadnjkaaDoorSk10
import Derived.Great.BuildSlice
import Derived.Test.YtbnnjkjmadnjkaaDoorShAdd
import Derived.Test.YtbnnjkjmadnjkaaDoorSk3
namespace Go.Proofs.YtbnnjkjmadnjkaaDoor
section
open Go.RowKit
set_option linter.unusedVariables false

/-- Bytes in memory. -/
def bRow (l : List UInt8) : Array Value := (l.map cell8).toArray
theorem bRow_size (l : List UInt8) : (bRow l).size = l.length := by simp [bRow]
theorem bRow_one (l : List UInt8) : (bRow l).all (·.oneCell') = true := by
  rw [Array.all_eq_true_iff_forall_mem]
  intro v hv
  simp only [bRow, List.mem_toArray] at hv
  obtain ⟨x, _, rfl⟩ := List.mem_map.1 hv
  rfl
theorem info_b32 : (Tryd.prog.info? 22).map (·.size) = some 32 := by kernel_rfl
theorem info_bRow {l : List UInt8} (h : l.length = 32) : (Tryd.prog.info? 22).map (·.size) = some (bRow l).size := by rw [bRow_size, h]; exact info_b32
theorem zeros32 : (#[.int .u8 0, .int .u8 0, .int .u8 0, .int .u8 0, .int .u8 0, .int .u8 0, .int .u8 0, .int .u8 0, .int .u8 0, .int .u8 0, .int .u8 0, .int .u8 0, .int .u8 0, .int .u8 0, .int .u8 0, .int .u8 0, .int .u8 0, .int .u8 0, .int .u8 0, .int .u8 0, .int .u8 0, .int .u8 0, .int .u8 0, .int .u8 0, .int .u8 0, .int .u8 0, .int .u8 0, .int .u8 0, .int .u8 0, .int .u8 0, .int .u8 0, .int .u8 0] : Array Value) = bRow (List.replicate 32 0) := by kernel_rfl

/-- The row while it is filled. -/
def midB (l : List UInt8) (k : Nat) : List UInt8 := l.take k ++ List.replicate (32 - k) 0
theorem midB_set (l : List UInt8) (k : Nat) (hk : k < 32) (hl : l.length = 32) : (midB l k).set k (l.getD k 0) = midB l (k + 1) := by
  have h1 : (l.take k).length = k := by rw [List.length_take]; omega
  rw [midB, List.set_append_right _ _ (by omega), h1, Nat.sub_self, show 32 - k = (32 - (k + 1)) + 1 by omega, List.replicate_succ, List.set_cons_zero, midB]
  rw [List.take_succ_eq_append_getElem (by omega), List.append_assoc]
  simp [List.getD, hl, hk]
theorem midB_len (l : List UInt8) (k : Nat) (hk : k ≤ 32) (hl : l.length = 32) : (midB l k).length = 32 := by
  simp [midB]; omega

set_option maxRecDepth 100000 in
set_option maxHeartbeats 400000 in
theorem bytes_any (g : Nat) (s : S8) (w : World) (hg : g < w.heap.size) (hs : ∀ j, j < 8 → w.cell? ⟨g, j, none⟩ = some (.int .u32 (wi (s.l.getD j 0)))) :
    Calls Tryd.prog 87 #[.pointer (some ⟨g, 0, none⟩)] w fun e w' => e = .returned (.agg (bRow (bytesS s))) ∧ Below w.heap.size w w' := by
  have hbe : Below w.heap.size w ((w.alloc (.cells (bRow (List.replicate 32 0)) 22)).alloc (.cells (bRow (List.replicate 32 0)) 22)) := ((Below.refl _ _).alloc (Nat.le_refl _) _).alloc (by simp) _
  have h2 : Wh ((w.alloc (.cells (bRow (List.replicate 32 0)) 22)).alloc (.cells (bRow (List.replicate 32 0)) 22)) w.heap.size 22 (bRow (List.replicate 32 0)) := (Wh.new _ _ _).alloc _
  have h3 : Wh ((w.alloc (.cells (bRow (List.replicate 32 0)) 22)).alloc (.cells (bRow (List.replicate 32 0)) 22)) (w.heap.size + 1) 22 (bRow (List.replicate 32 0)) := by
    have := Wh.new (w.alloc (.cells (bRow (List.replicate 32 0)) 22)) 22 (bRow (List.replicate 32 0))
    rwa [show (w.alloc (.cells (bRow (List.replicate 32 0)) 22)).heap.size = w.heap.size + 1 by simp] at this
  have HC := Lib.hid (fun j (h : j < 8) => (hbe.cell (p := ⟨g, j, none⟩) hg).trans (hs j h))
  clear hs
  go_enter Tryd.func87, Tryd.ntmps87
  go_upto_region 2 with (fail)
  rw [zeros32]
  generalize (w.alloc (.cells (bRow (List.replicate 32 0)) 22)).alloc (.cells (bRow (List.replicate 32 0)) 22) = W at *
  obtain ⟨r, hr⟩ : ∃ r, r = w.heap.size := ⟨_, rfl⟩
  obtain ⟨q, hq⟩ : ∃ q, q = w.heap.size + 1 := ⟨_, rfl⟩
  rw [← hr] at h2
  rw [← hq] at h3
  rw [← hq, ← hr]
  have HQ := Lib.hid hq
  have HR := Lib.hid hr
  have H2 := Lib.hid h2
  have hgW : g < W.heap.size := by have := hbe.size; omega
  have hgr : g < r := by omega
  have hrq : r < q := by omega
  have H3 := Lib.hid h3
  clear hq hr h2 h3
  go_wp2
  go_loopw [4, 5] (fun _ i wr => ∃ k : Nat, k ≤ 32 ∧ i = .int .i64 (k : Int) ∧ Hid (Wh wr q 22 (bRow (midB (bytesS s) k))) ∧ Hid (W.grownBy wr (some q))) (fun _ i _ => 32 - (intOf i).toNat)
  case atStart => exact ⟨0, by omega, rfl, H3, Lib.hid (World.grownBy.refl _ _)⟩
  case round =>
    obtain ⟨k, hk, rfl, HW, HGr⟩ := hrel
    by_cases hlt : k < 32
    · have hx : wr.cell? ⟨g, k / 4, none⟩ = some (.int .u32 (wi (s.l.getD (k / 4) 0))) := by
        rw [World.cell?_of_block (HGr.out.block g hgW (fun e => by have := Option.some.inj e; omega))]
        exact HC.out (k / 4) (by omega)
      have hu : ∃ u, wr.cell? ⟨q, k, none⟩ = some (.int .u8 u) := by
        have h1 : k < (midB (bytesS s) k).length := by rw [midB_len _ k hk (bytesS_len s)]; exact hlt
        refine ⟨(((midB (bytesS s) k)[k]).toNat : Int), ?_⟩
        rw [HW.out.cell, bRow, List.getElem?_toArray, List.getElem?_map, List.getElem?_eq_getElem h1]
        rfl
      obtain ⟨u, hu⟩ := hu
      have hf := HW.out.frozen k
      have hby := bytesS_at s k hlt
      have hst := midB_set (bytesS s) k hlt (bytesS_len s)
      rw [hby] at hst
      have HST := Deep.mk hst
      clear hby hst
      obtain ⟨x, hxx⟩ : ∃ x, x = s.l.getD (k / 4) 0 := ⟨_, rfl⟩
      rw [← hxx] at hx HST
      clear hxx
      have k1 : (0 : Int) ≤ 8 * (3 - (k : Int) % 4) := by omega
      have k2 : 8 * (3 - (k : Int) % 4) ≤ 32 := by omega
      go_wp2
      refine ⟨⟨k + 1, by omega, rfl, ?_, Lib.hid (grown_trans HGr.out (grown_set _ _ _ _))⟩, by simp [intOf]; omega⟩
      have h := HW.out.put k (.int .u8 (wi x / 2 ^ (8 * (3 - k % 4)) % 256))
      have hv : Value.int .u8 (wi x / 2 ^ (8 * (3 - k % 4)) % 256) = cell8 (byteW x (3 - k % 4)) := be_cell x.toNat (3 - k % 4)
      rw [hv, bRow, List.setIfInBounds_toArray, ← List.map_set, HST.out] at h
      rw [hv]
      exact Lib.hid h
    · obtain ⟨HB, HS⟩ : Hid (Wh wr q 22 (bRow (bytesS s))) ∧ Hid (Wh wr r 22 (bRow (List.replicate 32 0))) := by
        have h := HW.out
        have hk32 : k = 32 := by omega
        rw [hk32, midB, show 32 - 32 = 0 from rfl, List.replicate_zero, List.append_nil, List.take_of_length_le (by rw [bytesS_len]; exact Nat.le_refl _)] at h
        exact ⟨Lib.hid h, Lib.hid (H2.out.grown HGr.out (by intro e; have := Option.some.inj e; omega))⟩
      have hBe := Lib.hid (below_grown hbe HGr.out (by rw [HQ.out]; omega) hbe.size)
      have hwr : w.heap.size ≤ r := by rw [HR.out]; exact Nat.le_refl _
      have htd : decide ((k : Int) < 32) = false := by rw [decide_eq_false_iff_not]; omega
      clear HW HGr hlt hk hbe H3 H2 HC
      go_wp2_with (first
        | (refine wpList_load_row rfl 22 (.tmp 3) rfl q rfl _ (bRow (bytesS s)) _ _ HB.out Tryd.underlying22 rfl (info_bRow (bytesS_len s)) ?_)
        | (refine wpList_store_row rfl 22 (.tmp 2) (.tmp 23) rfl r (bRow (bytesS s)) rfl rfl _ _ HS.out (info_bRow (bytesS_len s)) (by rw [bRow_size, bRow_size, bytesS_len]; rfl) (bRow_one _) ?_))
      refine bodyPost_ret (v := .agg (bRow (bytesS s))) (results_cell_row Tryd.results87 _ _ r _ _ (0, 0) _ rfl (setRow_heap wr r _ _ _ _ HS.out) Tryd.underlying22 rfl (info_bRow (bytesS_len s))) rfl ?_
      exact ⟨rfl, below_setRow hBe.out hwr _⟩
end

section
open Go.RowKit
set_option linter.unusedVariables false

theorem tRow_size (ks : List W32) (L blk : List UInt8) (h : blk.length = 64) : (tRow ks L blk).size = 73 := by simp [tRow, S8.len, h]
theorem tRow_one (ks : List W32) (L blk : List UInt8) : (tRow ks L blk).all (·.oneCell') = true := by
  rw [Array.all_eq_true_iff_forall_mem]
  intro v hv
  simp only [tRow, List.mem_toArray, List.mem_append, List.mem_map, List.mem_singleton] at hv
  rcases hv with ⟨x, _, rfl⟩ | ⟨x, _, rfl⟩ | rfl <;> rfl
theorem info_text : (Tryd.prog.info? 140).map (·.size) = some 73 := by kernel_rfl
theorem TX.below {w w' : World} {g B : Nat} {ks : List W32} {L : List UInt8} (h : TX w g ks L) (hb : Below B w w') (hg : g < B) : TX w' g ks L := by
  obtain ⟨blk, h1, h2⟩ := h
  exact ⟨blk, h1, h2.below hb hg⟩
theorem endB_le (n : Nat) : (endB n).length ≤ 72 := by
  simp [endB, be_length]; omega

set_option maxRecDepth 100000 in
theorem zero_text (w : World) : (zeroValue 140).run Tryd.prog w = .ok (.agg #[.int .u32 0, .int .u32 0, .int .u32 0, .int .u32 0, .int .u32 0, .int .u32 0, .int .u32 0, .int .u32 0, .int .u8 0, .int .u8 0, .int .u8 0, .int .u8 0, .int .u8 0, .int .u8 0, .int .u8 0, .int .u8 0, .int .u8 0, .int .u8 0, .int .u8 0, .int .u8 0, .int .u8 0, .int .u8 0, .int .u8 0, .int .u8 0, .int .u8 0, .int .u8 0, .int .u8 0, .int .u8 0, .int .u8 0, .int .u8 0, .int .u8 0, .int .u8 0, .int .u8 0, .int .u8 0, .int .u8 0, .int .u8 0, .int .u8 0, .int .u8 0, .int .u8 0, .int .u8 0, .int .u8 0, .int .u8 0, .int .u8 0, .int .u8 0, .int .u8 0, .int .u8 0, .int .u8 0, .int .u8 0, .int .u8 0, .int .u8 0, .int .u8 0, .int .u8 0, .int .u8 0, .int .u8 0, .int .u8 0, .int .u8 0, .int .u8 0, .int .u8 0, .int .u8 0, .int .u8 0, .int .u8 0, .int .u8 0, .int .u8 0, .int .u8 0, .int .u8 0, .int .u8 0, .int .u8 0, .int .u8 0, .int .u8 0, .int .u8 0, .int .u8 0, .int .u8 0, .int .u64 0]) w := by kernel_rfl
set_option maxRecDepth 100000 in
theorem zero_made (ks : List W32) : ∃ Z : Array Value, (∀ w, (zeroValue 140).run Tryd.prog w = .ok (.agg Z) w) ∧ Z.size = 73 ∧ ((((((((Z.setIfInBounds 0 (.int .u32 1779033703)).setIfInBounds 1 (.int .u32 3144134277)).setIfInBounds 2 (.int .u32 1013904242)).setIfInBounds 3 (.int .u32 2773480762)).setIfInBounds 4 (.int .u32 1359893119)).setIfInBounds 5 (.int .u32 2600822924)).setIfInBounds 6 (.int .u32 528734635)).setIfInBounds 7 (.int .u32 1541459225)) = tRow ks [] (List.replicate 64 0) :=
  ⟨_, zero_text, rfl, by kernel_rfl⟩

theorem built_text (ks : List W32) : Tryd.prog.built 140 [(0, .agg #[.int .u32 1779033703, .int .u32 3144134277, .int .u32 1013904242, .int .u32 2773480762, .int .u32 1359893119, .int .u32 2600822924, .int .u32 528734635, .int .u32 1541459225])] = some (tRow ks [] (List.replicate 64 0)) := by kernel_rfl

set_option maxRecDepth 100000 in
set_option maxHeartbeats 400000 in
theorem sum_any (ks : List W32) (ps : List (List UInt8)) (vs : List Value) (A : Option Addr) (len c : Nat) (w : World) (hks : ks.length = 64) (hK : KT w ks) (hKb : 0 < w.heap.size)
    (hA : Sv w w.heap.size A vs) (hvl : vs.length = len) (hlc : len ≤ c) (hcm : c ≤ maxLen)
    (hP : vs.length = ps.length ∧ ∀ (i : Nat) (v : Value) (l : List UInt8), vs[i]? = some v → ps[i]? = some l → ∃ A c, v = .slice A l.length c ∧ l.length ≤ c ∧ c ≤ maxLen ∧ Sl w w.heap.size A l) (hmax : ps.flatten.length ≤ 16000000) :
    Calls Tryd.prog 75 #[.slice A len c] w fun e w' => e = .returned (.agg (bRow (sumK ks ps.flatten))) ∧ Below w.heap.size w w' := by
  have HKS := Lib.hid hks
  have HK := Lib.hid hK
  have HA := Lib.hid hA
  have HV := Lib.hid hvl
  have HP := Lib.hid hP
  have HX := Lib.hid hmax
  clear hks hK hA hvl hP hmax
  go_enter Tryd.func75, Tryd.ntmps75
  obtain ⟨R0, hR0⟩ : ∃ R0, R0 = tRow ks [] (List.replicate 64 0) := ⟨_, rfl⟩
  have h73 : R0.size = 73 := by rw [hR0]; exact tRow_size _ _ _ (by simp)
  have hone : R0.all (·.oneCell') = true := by rw [hR0]; exact tRow_one _ _ _
  obtain ⟨Z, hz1, hz2, hz3⟩ := zero_made ks
  rw [← hR0] at hz3
  have hbt := built_text ks
  rw [← hR0] at hbt
  have HBT := Deep.mk hbt
  clear hbt
  have HZ1 := Deep.mk hz1
  have HZ2 := Deep.mk hz2
  have HZ3 := Deep.mk hz3
  clear hz1 hz2 hz3
  have H73 := Deep.mk h73
  have HONE := Deep.mk hone
  have HR0 := Deep.mk hR0
  have HI0 : Deep ((Tryd.prog.info? 140).map (·.size) = some R0.size) := ⟨by rw [h73]; exact info_text⟩
  clear h73 hone hR0
  go_upto_region 1 with fail
  rw [zeros32]
  have hbw : Below w.heap.size w (w.alloc (.cells (bRow (List.replicate 32 0)) 22)) := (Below.refl _ _).alloc (Nat.le_refl _) _
  have hwr : Wh (w.alloc (.cells (bRow (List.replicate 32 0)) 22)) w.heap.size 22 (bRow (List.replicate 32 0)) := Wh.new _ _ _
  generalize w.alloc (.cells (bRow (List.replicate 32 0)) 22) = w0 at *
  obtain ⟨r, hr⟩ : ∃ r, r = w.heap.size := ⟨_, rfl⟩
  rw [← hr] at hwr
  rw [← hr]
  have HRR := Lib.hid hr
  have HWR := Lib.hid hwr
  have HBW := Lib.hid hbw
  have hr0 : r < w0.heap.size := hwr.lt
  clear hr hwr hbw
  go_upto_region 2 with (first
    | (go_at_call 84; refine (first_lit _).mono ?_; rintro e w1 ⟨rfl, hb1⟩; have HB1 := Lib.hid hb1; clear hb1)
    | (refine wpList_built1Z rfl 140 (.tmp 4) rfl (.agg #[.int .u32 1779033703, .int .u32 3144134277, .int .u32 1013904242, .int .u32 2773480762, .int .u32 1359893119, .int .u32 2600822924, .int .u32 528734635, .int .u32 1541459225]) rfl R0 HBT.out ?_)
    | (refine wpList_allocZ rfl 140 rfl Z (HZ1.out _) ?_)
    | (refine wpList_store_row rfl 140 (.tmp 3) (.tmp 5) rfl w1.heap.size R0 rfl rfl _ _ (heap_alloc_new w1 _) HI0.out (by rw [HZ2.out, H73.out]) HONE.out ?_; rw [World.setRow_alloc_new]))
  obtain ⟨g, hg⟩ : ∃ g, g = w1.heap.size := ⟨_, rfl⟩
  have hwg : w.heap.size ≤ g := by rw [hg]; exact Nat.le_trans HBW.out.size HB1.out.size
  have hrg : r < g := by rw [hg]; exact Nat.lt_of_lt_of_le hr0 HB1.out.size
  have hB2 : Below w.heap.size w (w1.alloc (.cells R0 140)) := (HBW.out.trans (HB1.out.mono HBW.out.size)).alloc (Nat.le_trans HBW.out.size HB1.out.size) _
  have hW2 : Wh (w1.alloc (.cells R0 140)) g 140 R0 := by rw [hg]; exact Wh.new _ _ _
  have hWr : Wh (w1.alloc (.cells R0 140)) r 22 (bRow (List.replicate 32 0)) := (HWR.out.below HB1.out hr0).alloc _
  rw [← hg]
  generalize w1.alloc (.cells R0 140) = w2 at *
  have hgw2 : g < w2.heap.size := hW2.lt
  have HGG := Lib.hid hg
  have HT2 : Hid (TX w2 g ks []) := ⟨_, TB.zero, by rw [← HR0.out]; exact hW2⟩
  have HK2 := Lib.hid (HK.out.below hKb hB2)
  have hKb2 : 0 < w2.heap.size := Nat.lt_of_lt_of_le hKb hB2.size
  have HSA : Hid (Sx w2 g A vs) := Sx.of (HA.out.below hB2) hwg hgw2
  have HPA : Hid (Parts w2 g vs ps) := ⟨HP.out.1, fun i v l hv hl => by
    obtain ⟨A, c, h1, h2, h3, h4⟩ := HP.out.2 i v l hv hl
    exact ⟨A, c, h1, h2, h3, Sx.of (Sv.below h4 hB2) hwg hgw2⟩⟩
  have HB2 := Lib.hid hB2
  have HWr := Lib.hid hWr
  have hKg : 0 ≠ g := by omega
  clear hg hB2 hW2 hWr HZ1 HZ2 HZ3 H73 HONE HI0 HR0 HWR HBW HB1 hr0
  go_upto_region 3 with (go_at_call 85; refine (add_any g ks [] ps vs A len c w2 HKS.out HK2.out hKb2 hKg HT2.out HSA.out HV.out hlc hcm HPA.out (by have := HX.out; rw [List.length_nil]; omega)).mono ?_; rintro e w3 ⟨rfl, hg3, ht3⟩; have HG3 := Lib.hid hg3; have HT3 := Lib.hid ht3; clear hg3 ht3)
  obtain ⟨L, hL⟩ : ∃ L, L = ps.flatten := ⟨_, rfl⟩
  obtain ⟨n, hn⟩ : ∃ n, n = L.length := ⟨_, rfl⟩
  have hn16 : n ≤ 16000000 := by rw [hn, hL]; exact HX.out
  have hc72 : w3.cell? ⟨g, 72, none⟩ = some (.int .u64 (n : Int)) := by
    obtain ⟨blk, hTB, hWh⟩ := HT3.out
    rw [List.nil_append, ← hL] at hTB hWh
    rw [hWh.cell, tRow]
    simp only [List.getElem?_toArray]
    rw [List.getElem?_append_right (by simp [S8.len]), List.getElem?_append_right (by simp [S8.len, hTB.1])]
    simp [S8.len, hTB.1, hn]
  have HL := Deep.mk hL
  have HN := Deep.mk hn
  clear hL hn
  go_upto_region 4 with (first
    | (go_at_call 86; refine (ending_any n _ (by omega)).mono ?_; rintro e w4 ⟨A4, c4, rfl, hec, hecm, heo, heb⟩; have HEO := Lib.hid heo; have HEB := Lib.hid heb; have HEM := Lib.hid hecm; clear heo heb hecm))
  have hgw3 : g < w3.heap.size := by have := HG3.out.size; omega
  have hb5 : Below w3.heap.size w3 (w4.alloc (.cells #[Value.slice A4 (endB n).length c4] 28)) := HEB.out.alloc HEB.out.size _
  have hT5 : TX (w4.alloc (.cells #[Value.slice A4 (endB n).length c4] 28)) g ks L := by
    have h := HT3.out.below hb5 hgw3
    rw [List.nil_append, ← HL.out] at h
    exact h
  have hK5 : KT (w4.alloc (.cells #[Value.slice A4 (endB n).length c4] 28)) ks := ((HK2.out.grown HG3.out hKb2 hKg)).below (Nat.lt_of_lt_of_le hKb2 HG3.out.size) hb5
  have hKb5 : 0 < (w4.alloc (.cells #[Value.slice A4 (endB n).length c4] 28)).heap.size := Nat.lt_of_lt_of_le hKb2 (Nat.le_trans HG3.out.size hb5.size)
  have hgw5 : g < (w4.alloc (.cells #[Value.slice A4 (endB n).length c4] 28)).heap.size := Nat.lt_of_lt_of_le hgw3 hb5.size
  have hS5 : Sx (w4.alloc (.cells #[Value.slice A4 (endB n).length c4] 28)) g (some ⟨w4.heap.size, 0, none⟩) [Value.slice A4 (endB n).length c4] := by
    intro hne
    obtain ⟨b', o', e, h1, h2⟩ := sv_new w4 (Value.slice A4 (endB n).length c4) 28 hne
    simp only [Option.some.injEq, Addr.mk.injEq, and_true] at e
    obtain ⟨rfl, rfl⟩ := e
    exact ⟨w4.heap.size, 0, rfl, by simp, by have := HEB.out.size; omega, h2⟩
  have hP5 : Parts (w4.alloc (.cells #[Value.slice A4 (endB n).length c4] 28)) g [Value.slice A4 (endB n).length c4] [endB n] := by
    refine ⟨rfl, fun i v l hv hl => ?_⟩
    rcases i with _ | i
    · obtain rfl := Option.some.inj hv
      obtain rfl := Option.some.inj hl
      exact ⟨A4, c4, rfl, hec, HEM.out, (Sx.of_own HEO.out (by omega)).below ((Below.refl _ _).alloc (Nat.le_refl _) _)⟩
    · cases hv
  have hL5 : L.length + [endB n].flatten.length ≤ 16777216 := by
    have h1 := endB_le n
    have h2 := HN.out
    simp only [List.flatten_cons, List.flatten_nil, List.append_nil]
    omega
  refine (add_any g ks L [endB n] [Value.slice A4 (endB n).length c4] _ 1 1 _ HKS.out hK5 hKb5 hKg hT5 hS5 rfl (Nat.le_refl _) (by unfold maxLen; omega) hP5 hL5).mono ?_
  rintro e w6 ⟨rfl, hg6, ht6⟩
  have HG6 := Lib.hid hg6
  have HT6 := Lib.hid ht6
  have HB5 := Lib.hid hb5
  clear hb5 hT5 hK5 hKb5 hgw5 hS5 hP5 hL5 hg6 ht6
  have hBf : Below w.heap.size w w6 := by
    have h1 := below_grown HB2.out HG3.out hwg HB2.out.size
    have h2 := h1.trans (HB5.out.mono h1.size)
    exact below_grown h2 HG6.out hwg h2.size
  have hrw2 : r < w2.heap.size := by omega
  have hWr6 : Wh w6 r 22 (bRow (List.replicate 32 0)) := by
    have h1 := HWr.out.grown HG3.out (by intro e; have := Option.some.inj e; omega)
    have h2 := h1.below HB5.out (by have := HG3.out.size; omega)
    exact h2.grown HG6.out (by intro e; have := Option.some.inj e; omega)
  have hgw6 : g < w6.heap.size := by have := HB5.out.size; have := HG6.out.size; omega
  obtain ⟨blk, hTB6, hW6⟩ := HT6.out
  rw [List.flatten_cons, List.flatten_nil, List.append_nil] at hTB6 hW6
  have hcs : ∀ j, j < 8 → w6.cell? ⟨g, j, none⟩ = some (.int .u32 (wi ((stB ks (L ++ endB n) ((L ++ endB n).length / 64)).l.getD j 0))) := by
    intro j hj
    rw [hW6.cell, tRow]
    simp only [List.getElem?_toArray]
    rw [List.getElem?_append_left (by simp [S8.len]; exact hj), List.getElem?_map]
    generalize stB ks (L ++ endB n) ((L ++ endB n).length / 64) = s
    have : j < s.l.length := by rw [S8.len]; exact hj
    simp [List.getD, this, cw]
  have hsum : bytesS (stB ks (L ++ endB n) ((L ++ endB n).length / 64)) = sumK ks ps.flatten := by rw [sumK, ← HL.out, ← HN.out]
  obtain ⟨sF, hsF⟩ : ∃ sF, sF = stB ks (L ++ endB n) ((L ++ endB n).length / 64) := ⟨_, rfl⟩
  rw [← hsF] at hcs hsum
  have HBF := Lib.hid hBf
  have HWR6 := Lib.hid hWr6
  have HCS := Deep.mk hcs
  have HSUMM := Deep.mk hsum
  clear hBf hWr6 hcs hsum hsF hTB6 hW6 hrw2 HB2 HK2 HT2 HSA HPA HWr HG3 HT3 HEO HEB HEM HG6 HT6 HB5 HL HN hn16
  go_wp2_with fail
  refine (bytes_any g sF w6 hgw6 HCS.out).mono ?_
  rintro e w7 ⟨rfl, hb7⟩
  have HBF7 := Lib.hid (HBF.out.trans (hb7.mono HBF.out.size))
  have HWR7 := Lib.hid (HWR6.out.below hb7 HWR6.out.lt)
  have hwr7 : w.heap.size ≤ r := by rw [HRR.out]; exact Nat.le_refl _
  clear hb7 HBF HWR6
  obtain ⟨out, hout⟩ : ∃ out, out = bytesS sF := ⟨_, rfl⟩
  rw [← hout]
  have hsl : out.length = 32 := by rw [hout]; exact bytesS_len _
  have HOUT : Deep (out = sumK ks ps.flatten) := ⟨by rw [hout]; exact HSUMM.out⟩
  clear hout HSUMM
  go_wp2_with (refine wpList_store_row rfl 22 (.tmp 2) (.tmp 14) rfl r (bRow out) rfl rfl _ _ HWR7.out (info_bRow hsl) (by rw [bRow_size, bRow_size, hsl]; rfl) (bRow_one _) ?_)
  refine bodyPost_ret (v := .agg (bRow out)) (results_cell_row Tryd.results75 _ _ r _ _ (0, 0) _ rfl (setRow_heap w7 r _ _ _ _ HWR7.out) Tryd.underlying22 rfl (info_bRow hsl)) rfl ?_
  exact ⟨by rw [HOUT.out], below_setRow HBF7.out hwr7 _⟩
end
end Go.Proofs.YtbnnjkjmadnjkaaDoor
