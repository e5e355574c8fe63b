/-
  gcm.Hash.
-/
import Derived.Test.YtajfpbkeabdcaaaGcAdd
namespace Go.Proofs.Ytajfpbkeabdcaaa
open Go.RowKit
set_option linter.unusedVariables false

theorem built_hash (a b : Int) : Try.prog.built 51 [(0, .agg #[.int .u64 a, .int .u64 b])] = some #[.int .u64 a, .int .u64 b, .int .u64 0, .int .u64 0] := by kernel_rfl
theorem hRow_0 (f : W128) : (#[.int .u64 (wq (loG f)), .int .u64 (wq (hiG f)), .int .u64 0, .int .u64 0] : Array Value) = hRow f 0#128 := by
  unfold hRow hL pL
  rw [lo_zero, hi_zero]
  rfl
theorem built_hash' (f : W128) : Try.prog.built 51 [(0, .agg (pRow f))] = some (hRow f 0#128) := by rw [← hRow_0]; exact built_hash _ _
theorem info_hash (f s : W128) : (Try.prog.info? 51).map (·.size) = some (hRow f s).size := by kernel_rfl
theorem hL_one (f s : W128) : (hRow f s).all (·.oneCell') = true := by simp [hRow, hL, pL, Value.oneCell']
theorem blG_bk {l : List UInt8} (h : l.length = 16) : bkG l = 0#128 ↔ l = List.replicate 16 0 := ⟨fun e => bk_inj h rfl (e.trans bk_zero.symm), fun e => by rw [e]; exact bk_zero⟩

set_option maxRecDepth 100000 in
set_option maxHeartbeats 400000 in
theorem gchash_any (k l : List UInt8) (A : Option Addr) (c : Nat) (w : World) (hk : k.length = 16) (hs : Sl w w.heap.size A l) (hlc : l.length ≤ c) (hcm : c ≤ maxLen) :
    Calls Try.prog 10 #[.agg (aRow k), .slice A l.length c] w fun e w' => e = .returned (.agg (aRow (hashL k l))) ∧ Below w.heap.size w w' := by
  have HK := Deep.mk hk
  have HS := Lib.hid hs
  have HC := Lib.hid hcm
  have HLC := Lib.hid hlc
  clear hk hs hcm hlc
  go_enter Try.func10, Try.ntmps10
  go_upto_region 1 with (fail)
  rw [zeros16]
  obtain ⟨hbe, h1, h2⟩ := made2 w (aRow k) (aRow (List.replicate 16 0)) 22 22
  have hz : ((w.alloc (.cells (aRow k) 22)).alloc (.cells (aRow (List.replicate 16 0)) 22)).heap.size = w.heap.size + 1 + 1 := by simp
  generalize (w.alloc (.cells (aRow k) 22)).alloc (.cells (aRow (List.replicate 16 0)) 22) = W at *
  obtain ⟨a, ha⟩ : ∃ a, a = w.heap.size := ⟨_, rfl⟩
  rw [← ha] at h1 h2 hz ⊢
  obtain ⟨r, hr⟩ : ∃ b', b' = a + 1 := ⟨_, rfl⟩
  rw [← hr] at h2 hz ⊢
  have har : a ≤ r := by omega
  have HA := Lib.hid ha
  have HBE := Lib.hid hbe
  have H1 := Lib.hid h1
  have H2 := Lib.hid h2
  clear ha hr hbe h1 h2 hz
  go_wp2_with (first | (refine wpList_load_blk rfl (.tmp 2) rfl a 0 rfl k HK.out (Wh.range H1.out) ?_))
  refine (of_any k _ HK.out).mono ?_
  rintro e w3 ⟨rfl, hb3⟩
  have H23 := Lib.hid (H2.out.below hb3 H2.out.lt)
  have HB3 := Lib.hid (HBE.out.trans (hb3.mono HBE.out.size))
  clear hb3 H1 H2 HBE
  obtain ⟨f, hf⟩ : ∃ f, f = bkG k := ⟨_, rfl⟩
  rw [← hf]
  have HF := Deep.mk hf
  clear hf
  go_upto_region 2 with (first
    | (refine wpList_built1 rfl 51 (.tmp 7) rfl (.agg (pRow f)) rfl (hRow f 0#128) (built_hash' f) ?_)
    | (refine wpList_store_row rfl 51 (.tmp 5) (.tmp 8) rfl w3.heap.size (hRow f 0#128) rfl rfl _ _ (heap_alloc_new w3 _) (info_hash f 0#128) rfl (hL_one _ _) ?_; rw [World.setRow_alloc_new]))
  obtain ⟨h, hh⟩ : ∃ h, h = w3.heap.size := ⟨_, rfl⟩
  have h4 := Wh.new w3 51 (hRow f 0#128)
  have H24 := Lib.hid (H23.out.alloc (.cells (hRow f 0#128) 51))
  have HB4 := Lib.hid (HB3.out.alloc HB3.out.size (.cells (hRow f 0#128) 51))
  have hhr : r < h := by rw [hh]; exact H23.out.lt
  have hwh : w.heap.size ≤ h := by rw [hh]; exact HB3.out.size
  have hs4 : Sx (w3.alloc (.cells (hRow f 0#128) 51)) h A (l.map cell8) := Sx.of (HS.out.below HB4.out) (by omega) (by rw [hh]; simp)
  rw [← hh] at h4 ⊢
  have H44 := Lib.hid h4
  have HS4 := Lib.hid hs4
  clear hh h4 hs4 H23 HB3
  generalize w3.alloc (.cells (hRow f 0#128) 51) = w4 at *
  go_wp2_with fail
  refine (hashadd_any h f 0#128 l A c w4 H44.out HS4.out HLC.out HC.out).mono ?_
  rintro e w5 ⟨rfl, hw5, hg5⟩
  have H25 := Lib.hid (H24.out.grown hg5 (by intro e; have := Option.some.inj e; omega))
  have HB5 := Lib.hid (below_grown HB4.out hg5 hwh HB4.out.size)
  have HW5 := Lib.hid hw5
  clear hw5 hg5 H24 HB4 H44 HS4
  obtain ⟨v, hv⟩ : ∃ v, v = fdW f 0#128 l := ⟨_, rfl⟩
  rw [← hv] at HW5
  have HV : Deep (blG v = hashL k l) := ⟨by rw [hv, HF.out, fdW_hash HK.out]; exact bl_bk (hsN_len HK.out _ _)⟩
  clear hv
  go_wp2_with (first
    | (refine wpList_load_mid rfl 48 (.tmp 11) rfl h 2 rfl (pL v) _ (hRow_s HW5.out) Try.underlying48 rfl info_pol ?_))
  refine (block_any v _).mono ?_
  rintro e w6 ⟨rfl, hb6⟩
  have H26 := Lib.hid (H25.out.below hb6 H25.out.lt)
  have HB6 := Lib.hid (HB5.out.trans (hb6.mono HB5.out.size))
  clear hb6 H25 HB5 HW5
  obtain ⟨z, hz⟩ : ∃ z, z = blG v := ⟨_, rfl⟩
  have HZL : Deep (z.length = 16) := ⟨by rw [hz]; exact bl_len v⟩
  rw [← hz] at HV ⊢
  have hwr : w.heap.size ≤ r := by rw [← HA.out]; exact har
  clear hz
  go_wp2_with (first
    | (refine wpList_store_row rfl 22 (.tmp 4) (.tmp 13) rfl r (aRow z) rfl rfl _ _ H26.out (info_aRow HZL.out) (by rw [aRow_size, aRow_size, HZL.out]; rfl) (aRow_one _) ?_))
  refine bodyPost_ret (v := .agg (aRow z)) (results_cell_row Try.results10 _ _ r _ _ (0, 0) _ rfl (setRow_heap w6 r _ _ _ _ H26.out) Try.underlying22 rfl (info_aRow HZL.out)) rfl ?_
  exact ⟨by rw [HV.out], below_setRow HB6.out hwr _⟩
end Go.Proofs.Ytajfpbkeabdcaaa
