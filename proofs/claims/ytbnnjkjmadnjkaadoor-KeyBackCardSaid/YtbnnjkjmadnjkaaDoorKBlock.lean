/-
  kdf.keysBlock, kdf.mixed: a key's block; each of its bytes exclusive-or another one.
-/
import Derived.IntWalk
import Derived.WalkSpells
import Derived.WalkLawsBesides
import Derived.Deep.DeepCutAuto
import Derived.Laws.CopyOwn
import Derived.Test.YtbnnjkjmadnjkaaDoorSk13
namespace Go.Proofs.YtbnnjkjmadnjkaaDoor
open Go.RowKit
set_option linter.unusedVariables false

theorem info_b64 : (Tryd.prog.info? 124).map (·.size) = some 64 := by kernel_rfl
theorem info_bRow64 {l : List UInt8} (h : l.length = 64) : (Tryd.prog.info? 124).map (·.size) = some (bRow l).size := by rw [bRow_size, h]; exact info_b64
theorem zeros64b : (#[.int .u8 0, .int .u8 0, .int .u8 0, .int .u8 0, .int .u8 0, .int .u8 0, .int .u8 0, .int .u8 0, .int .u8 0, .int .u8 0, .int .u8 0, .int .u8 0, .int .u8 0, .int .u8 0, .int .u8 0, .int .u8 0, .int .u8 0, .int .u8 0, .int .u8 0, .int .u8 0, .int .u8 0, .int .u8 0, .int .u8 0, .int .u8 0, .int .u8 0, .int .u8 0, .int .u8 0, .int .u8 0, .int .u8 0, .int .u8 0, .int .u8 0, .int .u8 0, .int .u8 0, .int .u8 0, .int .u8 0, .int .u8 0, .int .u8 0, .int .u8 0, .int .u8 0, .int .u8 0, .int .u8 0, .int .u8 0, .int .u8 0, .int .u8 0, .int .u8 0, .int .u8 0, .int .u8 0, .int .u8 0, .int .u8 0, .int .u8 0, .int .u8 0, .int .u8 0, .int .u8 0, .int .u8 0, .int .u8 0, .int .u8 0, .int .u8 0, .int .u8 0, .int .u8 0, .int .u8 0, .int .u8 0, .int .u8 0, .int .u8 0, .int .u8 0] : Array Value) = bRow (List.replicate 64 0) := by kernel_rfl

/-- A key's block by its copy. -/
theorem splice_key (k : List UInt8) (h : k.length ≤ 64) : splice ((List.replicate 64 (0 : UInt8)).map cell8) 0 (k.map cell8) = ((k ++ List.replicate (64 - k.length) 0).map cell8) := by
  unfold splice
  rw [List.take_zero, List.nil_append, List.length_map, Nat.zero_add, List.map_append, ← List.map_drop]
  congr 2
  rw [List.drop_replicate]

theorem u8_xorB (x y : UInt8) : bits .xor .u8 (x.toNat : Int) (y.toNat : Int) = ((x ^^^ y).toNat : Int) := by
  rw [u8_xor_nat _ _ x.toNat_lt y.toNat_lt, UInt8.toNat_xor]

set_option maxRecDepth 100000 in
set_option maxHeartbeats 400000 in
theorem keysblock_any (ks : List W32) (l : List UInt8) (A : Option Addr) (n c : Nat) (w : World) (hks : ks.length = 64) (hK : KT w ks) (hKb : 0 < w.heap.size) (hl : l.length = n) (hlc : n ≤ c) (hcm : c ≤ maxLen)
    (hs : Sl w w.heap.size A l) (hmax : n ≤ 16000000) :
    Calls Tryd.prog 73 #[.slice A n c] w fun e w' => e = .returned (.agg (bRow (blockK ks l))) ∧ Below w.heap.size w w' := by
  have HKS := Lib.hid hks
  have HL := Lib.hid hl
  have HLC := Lib.hid hlc
  have HCM := Lib.hid hcm
  unfold maxLen at hcm
  have hW0 : Below w.heap.size w ((w.alloc (.cells (bRow (List.replicate 64 0)) 124)).alloc (.cells (bRow (List.replicate 64 0)) 124)) := ((Below.refl _ _).alloc (Nat.le_refl _) _).alloc (by simp) _
  have h2 : Wh ((w.alloc (.cells (bRow (List.replicate 64 0)) 124)).alloc (.cells (bRow (List.replicate 64 0)) 124)) w.heap.size 124 (bRow (List.replicate 64 0)) := (Wh.new _ _ _).alloc _
  have h3 := wh_second w (.cells (bRow (List.replicate 64 0)) 124) 124 (bRow (List.replicate 64 0))
  have HKW := Lib.hid (hK.below hKb hW0)
  have HSW := Lib.hid (hs.below hW0)
  clear hks hK hl hs
  go_enter Tryd.func73, Tryd.ntmps73
  go_upto_region 2 with (fail)
  rw [zeros64b]
  generalize (w.alloc (.cells (bRow (List.replicate 64 0)) 124)).alloc (.cells (bRow (List.replicate 64 0)) 124) = W at *
  obtain ⟨r, hr⟩ : ∃ r, r = w.heap.size := ⟨_, rfl⟩
  obtain ⟨q, hq⟩ : ∃ q, q = w.heap.size + 1 := ⟨_, rfl⟩
  rw [← hr] at h2
  rw [← hq] at h3
  rw [← hq, ← hr]
  have hwr : w.heap.size ≤ r := by omega
  have hrq : r < q := by omega
  have hqW : q < W.heap.size := h3.lt
  have HR := Lib.hid hr
  have H2 := Lib.hid h2
  have H3 := Lib.hid h3
  have HW0 := Lib.hid hW0
  have hKbW : 0 < W.heap.size := Nat.lt_of_lt_of_le hKb hW0.size
  have hwW : w.heap.size ≤ W.heap.size := hW0.size
  clear hr hq h2 h3 hW0
  by_cases h64 : 64 < n
  · have t1 : decide (64 < n) = true := decide_eq_true h64
    have t1' : decide ((64 : Int) < (n : Int)) = true := decide_eq_true (by omega)
    have hp1 := one_part (w := W) (A := A) (c := c) (l := l) (by rw [HL.out]; exact HLC.out) HCM.out (HSW.out.keep hwW (fun _ _ => rfl))
    rw [HL.out] at hp1
    go_wp2_with fail
    refine (sum_of ks [l] [.slice A n c] 1 W HKS.out HKW.out hKbW rfl (by omega) hp1 (by simp only [List.flatten_cons, List.flatten_nil, List.append_nil, HL.out]; omega)).mono ?_
    rintro e w2 ⟨rfl, hb2⟩
    have HB2 := Lib.hid hb2
    obtain ⟨kk, hkk⟩ : ∃ kk, kk = sumK ks [l].flatten := ⟨_, rfl⟩
    rw [← hkk]
    have hkl : kk.length = 32 := by rw [hkk]; exact sumK_32 _ _
    have HKK0 := Deep.mk hkk
    have HKN := Deep.mk hkl
    clear hkk hkl hp1 hb2
    go_upto_region 4 with (refine wpList_store_row rfl 22 (.tmp 4) (.tmp 10) rfl w2.heap.size (bRow kk) rfl rfl _ _ (Wh.new w2 _ _) (info_bRow HKN.out) (by rw [bRow_size, HKN.out]; rfl) (bRow_one _) ?_; rw [World.setRow_alloc_new])
    have HKK : Deep (kk = keyK ks l) := ⟨by rw [HKK0.out, keyK, if_pos (by rw [HL.out]; exact h64)]; simp⟩
    have hB3 : Below W.heap.size W (w2.alloc (.cells (bRow kk) 22)) := HB2.out.alloc HB2.out.size _
    have hg3 : Wh (w2.alloc (.cells (bRow kk) 22)) w2.heap.size 22 (bRow kk) := Wh.new _ _ _
    obtain ⟨g, hg⟩ : ∃ g, g = w2.heap.size := ⟨_, rfl⟩
    rw [← hg] at hg3
    rw [← hg]
    generalize w2.alloc (.cells (bRow kk) 22) = w3 at *
    have HSK := Lib.hid (sl_of_wh hg3)
    have HQ3 := Lib.hid (H3.out.below hB3 hqW)
    have HR3 := Lib.hid (H2.out.below hB3 (Nat.lt_trans hrq hqW))
    have HB3 := Lib.hid (HW0.out.trans (hB3.mono hwW))
    clear hB3 hg3 hg HKK0 HB2 t1 t1' H2 H3 HKW HSW HW0
    go_upto_region 5 with (fail)
    have hs3 : splice ((List.replicate 64 (0 : UInt8)).map cell8) 0 (kk.map cell8) = (blockK ks l).map cell8 := by
      rw [splice_key kk (by rw [HKK.out]; exact keyK_len ks l), HKK.out]
      rfl
    have HS3 := Deep.mk hs3
    have hkn : (kk.map cell8).length = Nat.min 32 64 := by
      rw [List.length_map, HKN.out]
      exact (Nat.min_eq_left (by omega)).symm
    have HKM := Deep.mk hkn
    have HPOS : Deep (0 < (kk.map cell8).length → ∃ ad : Addr, (some ⟨g, 0, none⟩ : Option Addr) = some ad ∧ ∀ j v, (kk.map cell8)[j]? = some v → w3.cell? (ad.add j) = some v) := ⟨fun hp => by
      obtain ⟨b, off, e, _, hc⟩ := HSK.out (by intro e; rw [e] at hp; simp at hp)
      refine ⟨⟨b, off, none⟩, e, fun j v hv => ?_⟩
      rw [Addr.add_lit]
      exact hc j v hv⟩
    clear hs3 hkn
    go_upto_region 6 with (refine wpList_copy_splice rfl (.tmp 12) (.tmp 13) 28 28 rfl 5 Tryd.underlying28 (by kernel_rfl) (some ⟨q, 0, none⟩) (some ⟨g, 0, none⟩) 64 64 32 32 rfl rfl q 0 ((List.replicate 64 (0 : UInt8)).map cell8) 124 HQ3.out (kk.map cell8) HKM.out (fun hp => ⟨rfl, HPOS.out hp⟩) (by rw [List.length_map, HKN.out, List.length_map, List.length_replicate]; omega) (cell8_one _) q w3 (Below.refl _ _) (Nat.le_refl _) ?_; intro w4 HG4 hb4; have HB4 := Lib.hid hb4; clear hb4)
    have HG5 : Hid (Wh w4 q 124 (bRow (blockK ks l))) := by
      have h := HG4.out
      rw [HS3.out] at h
      exact Lib.hid h
    have HR5 : Hid (Wh w4 r 124 (bRow (List.replicate 64 0))) := Lib.hid (HR3.out.below HB4.out hrq)
    have HB5 := Lib.hid (HB3.out.trans (HB4.out.mono (Nat.le_trans hwr (Nat.le_of_lt hrq))))
    clear HG4 HR3 HB3 HB4 HS3 HPOS HKM HQ3
    go_wp2_with (first
      | (refine wpList_load_row rfl 124 (.tmp 3) rfl q rfl _ (bRow (blockK ks l)) _ _ HG5.out Tryd.underlying124 rfl (info_bRow64 (blockK_len _ _)) ?_)
      | (refine wpList_store_row rfl 124 (.tmp 2) (.tmp 15) rfl r (bRow (blockK ks l)) rfl rfl _ _ HR5.out (info_bRow64 (blockK_len _ _)) (by rw [bRow_size, bRow_size, blockK_len]; rfl) (bRow_one _) ?_))
    refine bodyPost_ret (v := .agg (bRow (blockK ks l))) (results_cell_row Tryd.results73 _ _ r _ _ (0, 0) _ rfl (setRow_heap w4 r _ _ _ _ HR5.out) Tryd.underlying124 rfl (info_bRow64 (blockK_len _ _))) rfl ?_
    exact ⟨rfl, below_setRow HB5.out hwr _⟩
  · have t1 : decide (64 < n) = false := decide_eq_false h64
    have t1' : decide ((64 : Int) < (n : Int)) = false := decide_eq_false (by omega)
    go_upto_region 5 with (fail)
    obtain ⟨kk, hkk⟩ : ∃ kk, kk = l := ⟨_, rfl⟩
    have HKK : Deep (kk = keyK ks l) := ⟨by rw [hkk, keyK, if_neg (by rw [HL.out]; exact h64)]⟩
    have HKN : Deep (kk.length = n) := ⟨by rw [hkk, HL.out]⟩
    have HSK : Hid (Sl W w.heap.size A kk) := Lib.hid (by rw [hkk]; exact HSW.out)
    have HQ3 := H3
    have HR3 := H2
    have HB3 := HW0
    clear t1 t1' H2 H3 HKW HSW HW0 hkk
    generalize W = w3 at *
    have hs3 : splice ((List.replicate 64 (0 : UInt8)).map cell8) 0 (kk.map cell8) = (blockK ks l).map cell8 := by
      rw [splice_key kk (by rw [HKK.out]; exact keyK_len ks l), HKK.out]
      rfl
    have HS3 := Deep.mk hs3
    have hkn : (kk.map cell8).length = Nat.min n 64 := by
      rw [List.length_map, HKN.out]
      exact (Nat.min_eq_left (by omega)).symm
    have HKM := Deep.mk hkn
    have HPOS : Deep (0 < (kk.map cell8).length → ∃ ad : Addr, A = some ad ∧ ∀ j v, (kk.map cell8)[j]? = some v → w3.cell? (ad.add j) = some v) := ⟨fun hp => by
      obtain ⟨b, off, e, _, hc⟩ := HSK.out (by intro e; rw [e] at hp; simp at hp)
      refine ⟨⟨b, off, none⟩, e, fun j v hv => ?_⟩
      rw [Addr.add_lit]
      exact hc j v hv⟩
    clear hs3 hkn
    go_upto_region 6 with (refine wpList_copy_splice rfl (.tmp 12) (.tmp 13) 28 28 rfl 5 Tryd.underlying28 (by kernel_rfl) (some ⟨q, 0, none⟩) A 64 64 n c rfl rfl q 0 ((List.replicate 64 (0 : UInt8)).map cell8) 124 HQ3.out (kk.map cell8) HKM.out (fun hp => ⟨rfl, HPOS.out hp⟩) (by rw [List.length_map, HKN.out, List.length_map, List.length_replicate]; omega) (cell8_one _) q w3 (Below.refl _ _) (Nat.le_refl _) ?_; intro w4 HG4 hb4; have HB4 := Lib.hid hb4; clear hb4)
    have HG5 : Hid (Wh w4 q 124 (bRow (blockK ks l))) := by
      have h := HG4.out
      rw [HS3.out] at h
      exact Lib.hid h
    have HR5 : Hid (Wh w4 r 124 (bRow (List.replicate 64 0))) := Lib.hid (HR3.out.below HB4.out hrq)
    have HB5 := Lib.hid (HB3.out.trans (HB4.out.mono (Nat.le_trans hwr (Nat.le_of_lt hrq))))
    clear HG4 HR3 HB3 HB4 HS3 HPOS HKM HQ3
    go_wp2_with (first
      | (refine wpList_load_row rfl 124 (.tmp 3) rfl q rfl _ (bRow (blockK ks l)) _ _ HG5.out Tryd.underlying124 rfl (info_bRow64 (blockK_len _ _)) ?_)
      | (refine wpList_store_row rfl 124 (.tmp 2) (.tmp 15) rfl r (bRow (blockK ks l)) rfl rfl _ _ HR5.out (info_bRow64 (blockK_len _ _)) (by rw [bRow_size, bRow_size, blockK_len]; rfl) (bRow_one _) ?_))
    refine bodyPost_ret (v := .agg (bRow (blockK ks l))) (results_cell_row Tryd.results73 _ _ r _ _ (0, 0) _ rfl (setRow_heap w4 r _ _ _ _ HR5.out) Tryd.underlying124 rfl (info_bRow64 (blockK_len _ _))) rfl ?_
    exact ⟨rfl, below_setRow HB5.out hwr _⟩

theorem below_set (w : World) (B q k : Nat) (v : Value) (h : B ≤ q) : Below B w (w.setCell ⟨q, k, none⟩ v) :=
  ⟨rfl, rfl, rfl, by simp [World.setCell], fun i hi => Below.heap_setCell w ⟨q, k, none⟩ v i (by show i ≠ q; omega)⟩
/-- The block while its first k bytes are mixed. -/
def mixM (b : List UInt8) (o : UInt8) (k : Nat) : List UInt8 := mixB (b.take k) o ++ b.drop k
theorem mixM_at (b : List UInt8) (o : UInt8) (k : Nat) (hk : k < b.length) : (mixM b o k)[k]? = some (b.getD k 0) := by
  have h1 : (mixB (b.take k) o).length = k := by rw [mixB_len, List.length_take]; omega
  rw [mixM, List.getElem?_append_right (by omega), h1, Nat.sub_self, List.getElem?_drop, Nat.add_zero]
  simp [List.getD, hk]
theorem mixM_set (b : List UInt8) (o : UInt8) (k : Nat) (hk : k < b.length) : (mixM b o k).set k (b.getD k 0 ^^^ o) = mixM b o (k + 1) := by
  have h1 : (mixB (b.take k) o).length = k := by rw [mixB_len, List.length_take]; omega
  rw [mixM, List.set_append_right _ _ (by omega), h1, Nat.sub_self, List.drop_eq_getElem_cons hk, List.set_cons_zero, mixM, List.take_succ_eq_append_getElem hk]
  simp only [mixB, List.map_append, List.map_cons, List.map_nil, List.append_assoc, List.getD, List.getElem?_eq_getElem hk, Option.getD_some]
  rfl

set_option maxRecDepth 100000 in
set_option maxHeartbeats 400000 in
theorem mixed_any (b : List UInt8) (o : UInt8) (w : World) (hb : b.length = 64) :
    Calls Tryd.prog 74 #[.agg (bRow b), .int .u8 (o.toNat : Int)] w fun e w' => e = .returned (.slice (some ⟨w.heap.size, 0, none⟩) 64 64) ∧ Wh w' w.heap.size 124 (bRow (mixB b o)) ∧ Below w.heap.size w w' := by
  have HBL := Lib.hid hb
  have hsz : (bRow b).size = 64 := by rw [bRow_size, hb]
  have hw : Wh (w.alloc (.cells (bRow b) 124)) w.heap.size 124 (bRow (mixM b o 0)) := by
    rw [show mixM b o 0 = b by simp [mixM, mixB]]
    exact Wh.new _ _ _
  have hb0 : Below w.heap.size w (w.alloc (.cells (bRow b) 124)) := (Below.refl _ _).alloc (Nat.le_refl _) _
  have HW := Lib.hid hw
  have HB := Lib.hid hb0
  clear hb
  go_enter Tryd.func74, Tryd.ntmps74
  go_upto_region 1 with (fail)
  generalize w.alloc (.cells (bRow b) 124) = W at *
  obtain ⟨q, hq⟩ : ∃ q, q = w.heap.size := ⟨_, rfl⟩
  rw [← hq]
  rw [← hq] at HW
  have HQ := Lib.hid hq
  have hqw : w.heap.size ≤ q := by omega
  clear hw hb0 hq hsz
  go_wp2
  go_loopw [5, 6, 8, 9, 10, 11, 12, 13, 14] (fun _ i _ _ _ _ _ _ _ wr => ∃ k : Nat, k ≤ 64 ∧ i = .int .i64 (k : Int) ∧ Hid (Wh wr q 124 (bRow (mixM b o k))) ∧ Hid (Below w.heap.size w wr)) (fun _ i _ _ _ _ _ _ _ _ => 64 - (intOf i).toNat)
  case atStart => exact ⟨0, by omega, rfl, HW, HB⟩
  case round =>
    obtain ⟨k, hk, rfl, HWk, HBk⟩ := hrel
    by_cases hlt : k < 64
    · have hx : wr.cell? ⟨q, k, none⟩ = some (.int .u8 ((b.getD k 0).toNat : Int)) := by
        rw [HWk.out.cell, bRow, List.getElem?_toArray, List.getElem?_map, mixM_at b o k (by rw [HBL.out]; exact hlt)]
        rfl
      have hf := HWk.out.frozen k
      have t1 : decide ((k : Int) < 64) = true := decide_eq_true (by omega)
      obtain ⟨x, hxx⟩ : ∃ x, x = b.getD k 0 := ⟨_, rfl⟩
      rw [← hxx] at hx
      have HXX := Deep.mk hxx
      have hxor := u8_xorB x o
      clear hxx
      go_wp2
      refine ⟨⟨k + 1, by omega, rfl, ?_, Lib.hid (HBk.out.trans (below_set _ _ _ _ _ hqw))⟩, by simp [intOf]; omega⟩
      have h := HWk.out.put k (cell8 (x ^^^ o))
      rw [bRow, List.setIfInBounds_toArray, ← List.map_set, HXX.out, mixM_set b o k (by rw [HBL.out]; exact hlt)] at h
      rw [← UInt8.toNat_xor, HXX.out]
      exact Lib.hid h
    · have t1 : decide ((k : Int) < 64) = false := decide_eq_false (by omega)
      have HW64 : Hid (Wh wr q 124 (bRow (mixB b o))) := by
        have h := HWk.out
        rw [show k = 64 by omega, show mixM b o 64 = mixB b o by (unfold mixM mixB; rw [List.take_of_length_le (by rw [HBL.out]; omega), List.drop_eq_nil_of_le (by rw [HBL.out]; omega), List.append_nil])] at h
        exact Lib.hid h
      clear HWk hlt hk
      go_wp2
      go_ret
      exact ⟨by rw [← HQ.out]; rfl, by rw [← HQ.out]; exact HW64.out, HBk.out⟩
end Go.Proofs.YtbnnjkjmadnjkaaDoor
