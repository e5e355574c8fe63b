/-
  key.Token.
-/
import Derived.Test.YtblclinfcdalaaaDoorKyInit
namespace Go.Proofs.YtblclinfcdalaaaDoor
open Go.RowKit
set_option linter.unusedVariables false

theorem info_tok : (Tryd.prog.info? 35).map (·.size) = some 16 := by kernel_rfl
theorem zero_tok (w : World) : (zeroValue 35).run Tryd.prog w = .ok (.agg (bRow (List.replicate 16 0))) w := by kernel_rfl
theorem info_tokR {l : List UInt8} (h : l.length = 16) : (Tryd.prog.info? 35).map (·.size) = some (bRow l).size := by rw [bRow_size, h]; exact info_tok

set_option maxRecDepth 100000 in
set_option maxHeartbeats 1600000 in
theorem token_any (static cid : List UInt8) (A : Option Addr) (m c : Nat) (w : World) (hK : Kt w) (hst : static.length = 32) (hl : cid.length = m) (hlc : m ≤ c) (hcm : c ≤ maxLen) (hs : Sl w w.heap.size A cid) (hmax : m ≤ 15000000) :
    Calls Tryd.prog 13 #[.agg (bRow static), .slice A m c] w fun e w' => e = .returned (.agg (bRow (tokK static cid))) ∧ Below w.heap.size w w' := by
  have HL := Deep.mk hl
  have HST := Deep.mk hst
  have HSZ : (bRow static).size = 32 := by rw [bRow_size, hst]
  obtain ⟨hbe, h2, h3, h4⟩ := made2K w (bRow static) (bRow (List.replicate 16 0)) 22 35
  have HKW := Lib.hid (hK.since hbe)
  have HSW := Lib.hid ((Sv.below hs hbe).keep hbe.size (fun _ _ => rfl))
  clear hK hs hl hst
  go_enter Tryd.func13, Tryd.ntmps13
  go_upto_region 1 with (refine wpList_allocZ rfl 35 rfl (bRow (List.replicate 16 0)) (zero_tok _) ?_)
  rw [show (w.alloc (.cells (bRow static) 22)).heap.size = w.heap.size + 1 by simp]
  generalize (w.alloc (.cells (bRow static) 22)).alloc (.cells (bRow (List.replicate 16 0)) 35) = W at *
  obtain ⟨b, hb⟩ : ∃ b, b = w.heap.size := ⟨_, rfl⟩
  obtain ⟨r, hr⟩ : ∃ r, r = w.heap.size + 1 := ⟨_, rfl⟩
  rw [← hb] at h2
  rw [← hr] at h3 h4
  rw [← hr, ← hb]
  have hwb : w.heap.size ≤ b := by omega
  have hbr : b < r := by omega
  have HSS := Lib.hid (sl_of_wh h2)
  have H3 := Lib.hid h3
  have HBE := Lib.hid hbe
  clear hb hr h2 h3 hbe h4
  go_wp2_with fail
  refine (mac_of kW static (some ⟨b, 0, none⟩) 32 32 [cid] [.slice A m c] 1 W kW_len HKW.out.1 HKW.out.2 HST.out (Nat.le_refl _) (by unfold maxLen; omega) HSS.out (by omega) rfl (by omega) ((PartsAt.nil W W.heap.size).cons HL.out hlc hcm HSW.out) (by simp only [List.flatten_cons, List.flatten_nil, List.append_nil, HL.out]; omega)).mono ?_
  rintro e w1 ⟨rfl, hb1⟩
  have hmc : (macK kW static [cid].flatten) = macK kW static cid := by simp
  rw [hmc]
  have htk : tokK static cid = (macK kW static cid).take 16 := rfl
  have hml : (macK kW static cid).length = 32 := macK_len _ _ _
  generalize macK kW static cid = M at *
  have HML := Deep.mk hml
  have HTK := Deep.mk htk
  have hl16 : (M.take 16).length = 16 := by rw [List.length_take, hml]; rfl
  have HL16 := Deep.mk hl16
  have H31 := Lib.hid (H3.out.below hb1 H3.out.lt)
  have HB1 := Lib.hid (HBE.out.trans (hb1.mono HBE.out.size))
  clear hmc htk hml hl16 hb1 H3 HBE HKW HSW HSS
  go_upto_region 2 with (first
    | (refine wpList_allocZ rfl 22 rfl (bRow (List.replicate 32 0)) (zero_b32 _) ?_)
    | (refine wpList_store_row rfl 22 (.tmp 5) (.tmp 9) rfl w1.heap.size (bRow M) rfl rfl _ _ (heap_alloc_new w1 _) (info_bRow HML.out) (by rw [bRow_size, bRow_size, HML.out]; rfl) (bRow_one _) ?_; rw [World.setRow_alloc_new]))
  obtain ⟨n, hn⟩ : ∃ n, n = w1.heap.size := ⟨_, rfl⟩
  have h5 := Wh.new w1 22 (bRow M)
  have hb3 := HB1.out.alloc HB1.out.size (.cells (bRow M) 22)
  have h33 := H31.out.alloc (.cells (bRow M) 22)
  rw [← hn] at h5
  rw [← hn]
  generalize w1.alloc (.cells (bRow M) 22) = w3 at *
  have hr0 : w3.rangeAt n 0 ((M.take 16).map cell8) := by
    have := row_rangeS h5
    rw [bRow_list] at this
    intro j v hv
    rw [List.map_take, List.getElem?_take] at hv
    split at hv
    · exact this j v hv
    · cases hv
  have HR0 := Lib.hid hr0
  have H33 := Lib.hid h33
  have HB3 := Lib.hid hb3
  clear hn h5 hb3 h33 hr0 H31 HB1
  go_wp2_with (first
    | (refine wpList_arr rfl 35 5 16 (.tmp 10) rfl (some ⟨n, 0, none⟩) 16 32 rfl Tryd.underlying35 (Nat.le_refl _) ?_)
    | (refine wpList_load_mid rfl 35 (.tmp 11) rfl n 0 rfl ((M.take 16).map cell8) _ HR0.out Tryd.underlying35 rfl (by rw [List.length_map, HL16.out]; exact info_tok) ?_)
    | (refine wpList_store_row rfl 35 (.tmp 4) (.tmp 12) rfl r (bRow (M.take 16)) rfl rfl _ _ H33.out (info_tokR HL16.out) (by rw [bRow_size, bRow_size, HL16.out]; rfl) (bRow_one _) ?_))
  refine bodyPost_ret (v := .agg (bRow (M.take 16))) (results_cell_row Tryd.results13 _ _ r _ _ (0, 0) _ rfl (setRow_heap w3 r _ _ _ _ H33.out) Tryd.underlying35 rfl (info_tokR HL16.out)) rfl ?_
  exact ⟨by rw [HTK.out], below_setRow HB3.out (by omega) _⟩
end Go.Proofs.YtblclinfcdalaaaDoor
