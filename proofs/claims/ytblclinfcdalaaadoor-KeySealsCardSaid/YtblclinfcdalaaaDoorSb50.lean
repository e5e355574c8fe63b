/-
  key.Initial.
  key.Token.
  The chapter's rows, walked.
-/
import Derived.Lib.SlBytesConst
import Derived.Test.YtblclinfcdalaaaDoorSb25
namespace Go.Proofs.YtblclinfcdalaaaDoor
section
open Go.RowKit
set_option linter.unusedVariables false

theorem results_cc {P : Program} {fn : Func} {a b : Tmp} {ta tb : TypeId} (h : fn.results = #[.cell a ta, .cell b tb]) (tmps : Array Value) (w : World) (pa pb : Addr) (va vb : Value)
    (ha : tmps.getD a undef = .pointer (some pa)) (la : (loadVar ta pa).run P w = .ok va w) (hb : tmps.getD b undef = .pointer (some pb)) (lb : (loadVar tb pb).run P w = .ok vb w) : (results fn tmps).run P w = .ok (.tuple #[va, vb]) w := by
  have ha' : tmps[a]?.getD undef = .pointer (some pa) := by simpa using ha
  have hb' : tmps[b]?.getD undef = .pointer (some pb) := by simpa using hb
  simp [results, h, ha', hb', asAddr, la, lb]
set_option maxRecDepth 100000 in
theorem load_ky {w : World} {g : Nat} {k : KS} (h : Wh w g 29 (kyRow k)) (hk : k.Ok) : (loadVar 29 ⟨g, 0, none⟩).run Tryd.prog w = .ok (.agg (kyRow k)) w :=
  run_loadVar_row w g _ _ _ _ _ h Tryd.underlying29 rfl (info_kyRow hk)

set_option maxRecDepth 100000 in
set_option maxHeartbeats 1600000 in
theorem initial_any (cid : List UInt8) (A : Option Addr) (m c : Nat) (w : World) (hK : Kt w) (hl : cid.length = m) (hlc : m ≤ c) (hcm : c ≤ maxLen) (hs : Sl w w.heap.size A cid) (hmax : m ≤ 15000000) :
    Calls Tryd.prog 8 #[.slice A m c] w fun e w' => e = .returned (.tuple #[.agg (kyRow (initK cIn cid)), .agg (kyRow (initK sIn cid))]) ∧ Below w.heap.size w w' := by
  have HL := Deep.mk hl
  have kc := fun (w : World) (C : Array Value) (n c : Nat) => Lib.run_convert_bytes_const (P := Tryd.prog) w 23 5 C n c Tryd.underlying23 Tryd.underlying5
  obtain ⟨hbe, h2, h3, h4⟩ := made2K w (kyRow kyZ) (kyRow kyZ) 29 29
  have HKW := Lib.hid (hK.since hbe)
  have HSW := Lib.hid ((Sv.below hs hbe).keep hbe.size (fun _ _ => rfl))
  obtain ⟨Z, hZ⟩ : ∃ Z, Z = kyRow kyZ := ⟨_, rfl⟩
  have hz0 := zero_ky
  rw [← hZ] at hz0 h3 hbe h2 h4 HKW HSW
  have HZ0 := Deep.mk hz0
  have HZ := Deep.mk hZ
  have HZS : Deep (Z.size = 77) := ⟨by rw [hZ, kyZ_ok.size]⟩
  clear hz0 hZ hK hs hl
  go_enter Tryd.func8, Tryd.ntmps8
  go_upto_region 1 with (refine wpList_allocZ rfl 29 rfl Z (HZ0.out _) ?_)
  rw [show (w.alloc (.cells Z 29)).heap.size = w.heap.size + 1 by simp]
  generalize (w.alloc (.cells Z 29)).alloc (.cells Z 29) = W at *
  obtain ⟨b, hb⟩ : ∃ b, b = w.heap.size := ⟨_, rfl⟩
  obtain ⟨r, hr⟩ : ∃ r, r = w.heap.size + 1 := ⟨_, rfl⟩
  rw [← hb] at h2
  rw [← hr] at h3 h4
  rw [← hr, ← hb]
  have hwb : w.heap.size ≤ b := by omega
  have hbr : b < r := by omega
  have H2 := Lib.hid h2
  have H3 := Lib.hid h3
  have HBE := Lib.hid hbe
  clear hb hr h2 h3 hbe h4
  go_wp2_with fail
  obtain ⟨wt, hwt⟩ : ∃ wt, wt = W.alloc (.cells #[.int .u8 56, .int .u8 118, .int .u8 44, .int .u8 247, .int .u8 245, .int .u8 89, .int .u8 52, .int .u8 179, .int .u8 77, .int .u8 23, .int .u8 154, .int .u8 230, .int .u8 164, .int .u8 200, .int .u8 12, .int .u8 173, .int .u8 204, .int .u8 187, .int .u8 127, .int .u8 10] 5 (20, 21)) := ⟨_, rfl⟩
  rw [← hwt]
  have hbt : Below W.heap.size W wt := by rw [hwt]; exact (Below.refl _ _).alloc (Nat.le_refl _) _
  have hst : wt.heap.size = W.heap.size + 1 := by rw [hwt]; simp
  have hsh : Sl wt wt.heap.size (some ⟨W.heap.size, 0, none⟩) saltK := by
    intro _
    refine ⟨W.heap.size, 0, rfl, by omega, fun i v hv => ?_⟩
    rw [hwt, World.cell?_alloc_mark, Nat.zero_add, ← hv]
    rw [show (#[Value.int .u8 56, .int .u8 118, .int .u8 44, .int .u8 247, .int .u8 245, .int .u8 89, .int .u8 52, .int .u8 179, .int .u8 77, .int .u8 23, .int .u8 154, .int .u8 230, .int .u8 164, .int .u8 200, .int .u8 12, .int .u8 173, .int .u8 204, .int .u8 187, .int .u8 127, .int .u8 10] : Array Value) = (saltK.map cell8).toArray by kernel_rfl, List.getElem?_toArray]
  have hkt : Kt wt := HKW.out.since hbt
  have hct : Sl wt wt.heap.size A cid := (Sv.below HSW.out hbt).keep hbt.size (fun _ _ => rfl)
  have hbwt : Below w.heap.size w wt := HBE.out.trans (hbt.mono HBE.out.size)
  have h2t := H2.out.below hbt H2.out.lt
  have h3t := H3.out.below hbt H3.out.lt
  clear kc
  refine (extract_any kW saltK cid _ 20 20 A m c wt kW_len hkt.1 hkt.2 rfl (Nat.le_refl _) (by unfold maxLen; omega) hsh (by omega) HL.out hlc hcm hct hmax).mono ?_
  rintro e w1 ⟨rfl, hb1⟩
  have hc1 : initK cIn cid = ofK (lb (macK kW saltK cid) cIn 32) := rfl
  have hc2 : initK sIn cid = ofK (lb (macK kW saltK cid) sIn 32) := rfl
  have hml : (macK kW saltK cid).length = 32 := macK_len _ _ _
  generalize macK kW saltK cid = M at *
  have HML := Deep.mk hml
  have hs1 := lb32 M cIn (by decide)
  have hs2 := lb32 M sIn (by decide)
  have HS1 : Hid (∀ w' : World, Kt w' → Calls Tryd.prog 26 #[.agg (bRow M), .string { data := #[99, 108, 105, 101, 110, 116, 32, 105, 110] }] w' fun e w2 => e = .returned (.agg (bRow (lb M cIn 32))) ∧ Below w'.heap.size w' w2) := Lib.hid fun w' h => secretOf_any M cIn w' h hml (by decide)
  have HS2 : Hid (∀ w' : World, Kt w' → Calls Tryd.prog 26 #[.agg (bRow M), .string { data := #[115, 101, 114, 118, 101, 114, 32, 105, 110] }] w' fun e w2 => e = .returned (.agg (bRow (lb M sIn 32))) ∧ Below w'.heap.size w' w2) := Lib.hid fun w' h => secretOf_any M sIn w' h hml (by decide)
  generalize lb M cIn 32 = s1 at *
  generalize lb M sIn 32 = s2 at *
  have HO1 : Hid (∀ w' : World, Kt w' → Calls Tryd.prog 7 #[.agg (bRow s1)] w' fun e w2 => e = .returned (.agg (kyRow (ofK s1))) ∧ Below w'.heap.size w' w2) := Lib.hid fun w' h => of_any s1 w' h hs1
  have HO2 : Hid (∀ w' : World, Kt w' → Calls Tryd.prog 7 #[.agg (bRow s2)] w' fun e w2 => e = .returned (.agg (kyRow (ofK s2))) ∧ Below w'.heap.size w' w2) := Lib.hid fun w' h => of_any s2 w' h hs2
  have hk1 := ofK_ok hs1
  have hk2 := ofK_ok hs2
  generalize ofK s1 = K1 at *
  generalize ofK s2 = K2 at *
  have HC1 := Deep.mk hc1
  have HC2 := Deep.mk hc2
  have HK1 := Deep.mk hk1
  have HK2 := Deep.mk hk2
  have H21 := Lib.hid (h2t.below hb1 h2t.lt)
  have H31 := Lib.hid (h3t.below hb1 h3t.lt)
  have HB1 := Lib.hid (hbwt.trans (hb1.mono hbwt.size))
  have HKT := Lib.hid (hkt.since hb1)
  clear hwt hbt hst hsh hkt hct hbwt h2t h3t hb1 hc1 hc2 hml hs1 hs2 hk1 hk2 H2 H3 HBE HKW HSW
  go_upto_region 2 with (first
    | (refine wpList_allocZ rfl 22 rfl (bRow (List.replicate 32 0)) (zero_b32 _) ?_)
    | (refine wpList_store_row rfl 22 (.tmp 4) (.tmp 8) rfl w1.heap.size (bRow M) rfl rfl _ _ (heap_alloc_new w1 _) (info_bRow HML.out) (by rw [bRow_size, bRow_size, HML.out]; rfl) (bRow_one _) ?_; rw [World.setRow_alloc_new]))
  obtain ⟨n, hn⟩ : ∃ n, n = w1.heap.size := ⟨_, rfl⟩
  have h5 := Wh.new w1 22 (bRow M)
  have hb3 := HB1.out.alloc HB1.out.size (.cells (bRow M) 22)
  have hk3 := HKT.out.since ((Below.refl _ _).alloc (Nat.le_refl _) (.cells (bRow M) 22))
  have h23 := H21.out.alloc (.cells (bRow M) 22)
  have h33 := H31.out.alloc (.cells (bRow M) 22)
  have hrn : r < n := by rw [hn]; exact H31.out.lt
  rw [← hn] at h5
  rw [← hn]
  generalize w1.alloc (.cells (bRow M) 22) = w3 at *
  have hk0 : Kt w3.drew := hk3
  have hr0 : w3.drew.rangeAt n 0 (M.map cell8) := by have := row_rangeS h5; rwa [bRow_list] at this
  have hn0 : n < w3.drew.heap.size := h5.lt
  have hz1 : Wh w3.drew b 29 (kyRow kyZ) := by rw [← HZ.out]; exact h23
  have hz2 : Wh w3.drew r 29 (kyRow kyZ) := by rw [← HZ.out]; exact h33
  have hB0 : Below w.heap.size w w3.drew := hb3.drew
  clear hn h5 hb3 hk3 h23 h33 H21 H31 HB1 HKT
  refine wp_region_held_drew (S := fun w' => w'.rangeAt n 0 (M.map cell8)) (by kernel_rfl) hr0 (fun _ => ?_)
  generalize w3.drew = w0 at *
  refine wpAnyH_take (i := 0) (v := .agg (bRow M)) (List.getElem?_toArray.trans rfl) (by kernel_rfl) (by kernel_rfl) (by kernel_rfl) (fun _ _ _ h => h) (yieldsIf_load_mid (by rfl) 22 (.tmp 4) rfl n 0 rfl (M.map cell8) _ (fun w' hS => hS) Tryd.underlying22 rfl (by rw [List.length_map, HML.out]; exact info_k32)) hr0 ?_
  refine act_normS (by simp only [Act.put, List.setIfInBounds_toArray, List.set_cons_zero, List.set_cons_succ]; rfl) ?_
  refine wpAnyH_take (i := 3) (v := .agg (bRow M)) (List.getElem?_toArray.trans rfl) (by kernel_rfl) (by kernel_rfl) (by kernel_rfl) (fun _ _ _ h => h) (yieldsIf_load_mid (by rfl) 22 (.tmp 4) rfl n 0 rfl (M.map cell8) _ (fun w' hS => hS) Tryd.underlying22 rfl (by rw [List.length_map, HML.out]; exact info_k32)) hr0 ?_
  refine act_normS (by simp only [Act.put, List.setIfInBounds_toArray, List.set_cons_zero, List.set_cons_succ]; rfl) ?_
  refine wpAnyH_ready (rs := [1]) (by kernel_rfl) (by simp) (AllReadyH.cons (List.getElem?_toArray.trans rfl) (fun K' hK => ?_) AllReadyH.nil)
  refine wanted_goS rfl ?_
  go_simp
  refine (HS1.out w0 hk0).mono ?_
  rintro e wd0 ⟨rfl, hbwd0⟩
  have hrwd0 := rangeAt_below hr0 hbwd0 hn0
  have hnwd0 := Nat.lt_of_lt_of_le hn0 hbwd0.size
  have hkwd0 := hk0.since hbwd0
  have hz1wd0 := hz1.below hbwd0 hz1.lt
  have hz2wd0 := hz2.below hbwd0 hz2.lt
  have hBwd0 := hB0.trans (hbwd0.mono hB0.size)
  refine hK.out _ _ hrwd0 (fun _ => ?_)
  clear hK K'
  refine wpAnyH_ready (rs := [2]) (by kernel_rfl) (by simp) (AllReadyH.cons (List.getElem?_toArray.trans rfl) (fun K' hK => ?_) AllReadyH.nil)
  refine wanted_goS rfl ?_
  go_simp
  refine (HO1.out wd0 hkwd0).mono ?_
  rintro e wd1 ⟨rfl, hbwd1⟩
  have hrwd1 := rangeAt_below hrwd0 hbwd1 hnwd0
  have hnwd1 := Nat.lt_of_lt_of_le hnwd0 hbwd1.size
  have hkwd1 := hkwd0.since hbwd1
  have hz1wd1 := hz1wd0.below hbwd1 hz1wd0.lt
  have hz2wd1 := hz2wd0.below hbwd1 hz2wd0.lt
  have hBwd1 := hBwd0.trans (hbwd1.mono hBwd0.size)
  refine hK.out _ _ hrwd1 (fun _ => ?_)
  clear hK K'
  refine wpAnyH_ready (rs := [4]) (by kernel_rfl) (by simp) (AllReadyH.cons (List.getElem?_toArray.trans rfl) (fun K' hK => ?_) AllReadyH.nil)
  refine wanted_goS rfl ?_
  go_simp
  refine (HS2.out wd1 hkwd1).mono ?_
  rintro e wd2 ⟨rfl, hbwd2⟩
  have hrwd2 := rangeAt_below hrwd1 hbwd2 hnwd1
  have hnwd2 := Nat.lt_of_lt_of_le hnwd1 hbwd2.size
  have hkwd2 := hkwd1.since hbwd2
  have hz1wd2 := hz1wd1.below hbwd2 hz1wd1.lt
  have hz2wd2 := hz2wd1.below hbwd2 hz2wd1.lt
  have hBwd2 := hBwd1.trans (hbwd2.mono hBwd1.size)
  refine hK.out _ _ hrwd2 (fun _ => ?_)
  clear hK K'
  refine wpAnyH_ready (rs := [5]) (by kernel_rfl) (by simp) (AllReadyH.cons (List.getElem?_toArray.trans rfl) (fun K' hK => ?_) AllReadyH.nil)
  refine wanted_goS rfl ?_
  go_simp
  refine (HO2.out wd2 hkwd2).mono ?_
  rintro e wd3 ⟨rfl, hbwd3⟩
  have hrwd3 := rangeAt_below hrwd2 hbwd3 hnwd2
  have hnwd3 := Nat.lt_of_lt_of_le hnwd2 hbwd3.size
  have hkwd3 := hkwd2.since hbwd3
  have hz1wd3 := hz1wd2.below hbwd3 hz1wd2.lt
  have hz2wd3 := hz2wd2.below hbwd3 hz2wd2.lt
  have hBwd3 := hBwd2.trans (hbwd3.mono hBwd2.size)
  refine hK.out _ _ hrwd3 (fun _ => ?_)
  clear hK K'
  obtain ⟨hx1, hv1⟩ := Wh.allK (ds := kyL K1) hz1wd3 (by rw [HK1.out.len, kyZ_ok.len])
  have hrx : (wd3.setCells b 0 (kyL K1)).rangeAt n 0 (M.map cell8) := fun j v hv => (World.cell?_of_block (hv1.block n hnwd3 (fun e => by have := Option.some.inj e; omega))).trans (hrwd3 j v hv)
  have hzx := hz2wd3.grown hv1 (fun e => by have := Option.some.inj e; omega)
  have hBx := below_grown hBwd3 hv1 hwb hBwd3.size
  refine wpAnyH_ready (rs := [6]) (by kernel_rfl) (by simp) (AllReadyH.cons (List.getElem?_toArray.trans rfl) (fun K' hK => ?_) AllReadyH.nil)
  refine wanted_goS rfl ?_
  refine wp_store_mid 29 (.tmp 2) (.tmp 11) rfl b 0 (kyRow K1) rfl rfl (by rw [HK1.out.size]; exact Wh.thereK hz1wd3 0 77 (by rw [kyZ_ok.len]; omega)) (info_kyRow HK1.out) (kyRow_one _) ?_
  rw [kyRow_list]
  refine hK.out _ _ hrx (fun _ => ?_)
  clear hK K'
  have hnx : n < (wd3.setCells b 0 (kyL K1)).heap.size := Nat.lt_of_lt_of_le hnwd3 hv1.size
  generalize wd3.setCells b 0 (kyL K1) = wx at *
  obtain ⟨hx2, hv2⟩ := Wh.allK (ds := kyL K2) hzx (by rw [HK2.out.len, kyZ_ok.len])
  have hry : (wx.setCells r 0 (kyL K2)).rangeAt n 0 (M.map cell8) := fun j v hv => (World.cell?_of_block (hv2.block n hnx (fun e => by have := Option.some.inj e; omega))).trans (hrx j v hv)
  have hxy := hx1.grown hv2 (fun e => by have := Option.some.inj e; omega)
  have hBy := below_grown hBx hv2 (by omega) hBx.size
  refine wpAnyH_ready (rs := [7]) (by kernel_rfl) (by simp) (AllReadyH.cons (List.getElem?_toArray.trans rfl) (fun K' hK => ?_) AllReadyH.nil)
  refine wanted_goS rfl ?_
  refine wp_store_mid 29 (.tmp 3) (.tmp 14) rfl r 0 (kyRow K2) rfl rfl (by rw [HK2.out.size]; exact Wh.thereK hzx 0 77 (by rw [kyZ_ok.len]; omega)) (info_kyRow HK2.out) (kyRow_one _) ?_
  rw [kyRow_list]
  refine hK.out _ _ hry (fun _ => ?_)
  clear hK K'
  refine wpAnyH_done (by kernel_rfl) ?_ _
  generalize wx.setCells r 0 (kyL K2) = wy at *
  go_wp2_with fail
  refine bodyPost_ret (v := .tuple #[.agg (kyRow K1), .agg (kyRow K2)]) (results_cc Tryd.results8 _ _ ⟨b, 0, none⟩ ⟨r, 0, none⟩ _ _ rfl (load_ky hxy HK1.out) rfl (load_ky hx2 HK2.out)) rfl ?_
  exact ⟨by rw [HC1.out, HC2.out], hBy⟩
end

section
open Go.RowKit
set_option linter.unusedVariables false

theorem info_tok : (Tryd.prog.info? 35).map (·.size) = some 16 := by kernel_rfl
theorem zero_tok (w : World) : (zeroValue 35).run Tryd.prog w = .ok (.agg (bRow (List.replicate 16 0))) w := by kernel_rfl
theorem info_tokR {l : List UInt8} (h : l.length = 16) : (Tryd.prog.info? 35).map (·.size) = some (bRow l).size := by rw [bRow_size, h]; exact info_tok

set_option maxRecDepth 100000 in
set_option maxHeartbeats 1600000 in
theorem token_any (static cid : List UInt8) (A : Option Addr) (m c : Nat) (w : World) (hK : Kt w) (hst : static.length = 32) (hl : cid.length = m) (hlc : m ≤ c) (hcm : c ≤ maxLen) (hs : Sl w w.heap.size A cid) (hmax : m ≤ 15000000) :
    Calls Tryd.prog 13 #[.agg (bRow static), .slice A m c] w fun e w' => e = .returned (.agg (bRow (tokK static cid))) ∧ Below w.heap.size w w' := by
  have HL := Deep.mk hl
  have HST := Deep.mk hst
  have HSZ : (bRow static).size = 32 := by rw [bRow_size, hst]
  obtain ⟨hbe, h2, h3, h4⟩ := made2K w (bRow static) (bRow (List.replicate 16 0)) 22 35
  have HKW := Lib.hid (hK.since hbe)
  have HSW := Lib.hid ((Sv.below hs hbe).keep hbe.size (fun _ _ => rfl))
  clear hK hs hl hst
  go_enter Tryd.func13, Tryd.ntmps13
  go_upto_region 1 with (refine wpList_allocZ rfl 35 rfl (bRow (List.replicate 16 0)) (zero_tok _) ?_)
  rw [show (w.alloc (.cells (bRow static) 22)).heap.size = w.heap.size + 1 by simp]
  generalize (w.alloc (.cells (bRow static) 22)).alloc (.cells (bRow (List.replicate 16 0)) 35) = W at *
  obtain ⟨b, hb⟩ : ∃ b, b = w.heap.size := ⟨_, rfl⟩
  obtain ⟨r, hr⟩ : ∃ r, r = w.heap.size + 1 := ⟨_, rfl⟩
  rw [← hb] at h2
  rw [← hr] at h3 h4
  rw [← hr, ← hb]
  have hwb : w.heap.size ≤ b := by omega
  have hbr : b < r := by omega
  have HSS := Lib.hid (sl_of_wh h2)
  have H3 := Lib.hid h3
  have HBE := Lib.hid hbe
  clear hb hr h2 h3 hbe h4
  go_wp2_with fail
  refine (mac_of kW static (some ⟨b, 0, none⟩) 32 32 [cid] [.slice A m c] 1 W kW_len HKW.out.1 HKW.out.2 HST.out (Nat.le_refl _) (by unfold maxLen; omega) HSS.out (by omega) rfl (by omega) ((PartsAt.nil W W.heap.size).cons HL.out hlc hcm HSW.out) (by simp only [List.flatten_cons, List.flatten_nil, List.append_nil, HL.out]; omega)).mono ?_
  rintro e w1 ⟨rfl, hb1⟩
  have hmc : (macK kW static [cid].flatten) = macK kW static cid := by simp
  rw [hmc]
  have htk : tokK static cid = (macK kW static cid).take 16 := rfl
  have hml : (macK kW static cid).length = 32 := macK_len _ _ _
  generalize macK kW static cid = M at *
  have HML := Deep.mk hml
  have HTK := Deep.mk htk
  have hl16 : (M.take 16).length = 16 := by rw [List.length_take, hml]; rfl
  have HL16 := Deep.mk hl16
  have H31 := Lib.hid (H3.out.below hb1 H3.out.lt)
  have HB1 := Lib.hid (HBE.out.trans (hb1.mono HBE.out.size))
  clear hmc htk hml hl16 hb1 H3 HBE HKW HSW HSS
  go_upto_region 2 with (first
    | (refine wpList_allocZ rfl 22 rfl (bRow (List.replicate 32 0)) (zero_b32 _) ?_)
    | (refine wpList_store_row rfl 22 (.tmp 5) (.tmp 9) rfl w1.heap.size (bRow M) rfl rfl _ _ (heap_alloc_new w1 _) (info_bRow HML.out) (by rw [bRow_size, bRow_size, HML.out]; rfl) (bRow_one _) ?_; rw [World.setRow_alloc_new]))
  obtain ⟨n, hn⟩ : ∃ n, n = w1.heap.size := ⟨_, rfl⟩
  have h5 := Wh.new w1 22 (bRow M)
  have hb3 := HB1.out.alloc HB1.out.size (.cells (bRow M) 22)
  have h33 := H31.out.alloc (.cells (bRow M) 22)
  rw [← hn] at h5
  rw [← hn]
  generalize w1.alloc (.cells (bRow M) 22) = w3 at *
  have hr0 : w3.rangeAt n 0 ((M.take 16).map cell8) := by
    have := row_rangeS h5
    rw [bRow_list] at this
    intro j v hv
    rw [List.map_take, List.getElem?_take] at hv
    split at hv
    · exact this j v hv
    · cases hv
  have HR0 := Lib.hid hr0
  have H33 := Lib.hid h33
  have HB3 := Lib.hid hb3
  clear hn h5 hb3 h33 hr0 H31 HB1
  go_wp2_with (first
    | (refine wpList_arr rfl 35 5 16 (.tmp 10) rfl (some ⟨n, 0, none⟩) 16 32 rfl Tryd.underlying35 (Nat.le_refl _) ?_)
    | (refine wpList_load_mid rfl 35 (.tmp 11) rfl n 0 rfl ((M.take 16).map cell8) _ HR0.out Tryd.underlying35 rfl (by rw [List.length_map, HL16.out]; exact info_tok) ?_)
    | (refine wpList_store_row rfl 35 (.tmp 4) (.tmp 12) rfl r (bRow (M.take 16)) rfl rfl _ _ H33.out (info_tokR HL16.out) (by rw [bRow_size, bRow_size, HL16.out]; rfl) (bRow_one _) ?_))
  refine bodyPost_ret (v := .agg (bRow (M.take 16))) (results_cell_row Tryd.results13 _ _ r _ _ (0, 0) _ rfl (setRow_heap w3 r _ _ _ _ H33.out) Tryd.underlying35 rfl (info_tokR HL16.out)) rfl ?_
  exact ⟨by rw [HTK.out], below_setRow HB3.out (by omega) _⟩
end

section
open Go.RowKit
set_option linter.unusedVariables false

theorem ky_sl {w : World} {g : Nat} {o : Nat} {l : List UInt8} (h : w.rangeAt g o (l.map cell8)) (hg : g < w.heap.size) : Sl w w.heap.size (some ⟨g, o, none⟩) l := fun _ => ⟨g, o, rfl, hg, fun i v hv => h i v hv⟩

set_option maxRecDepth 100000 in
theorem ky_str {w : World} {g : Nat} {o : Nat} {l : List UInt8} {n c : Nat} (h : w.rangeAt g o (l.map cell8)) (hg : g < w.heap.size) (hn : l.length = n) : (convert 23 9 (.slice (some ⟨g, o, none⟩) n c)).run Tryd.prog w = .ok (.string (strB l)) w :=
  run_string_sl (P := Tryd.prog) w 23 9 5 Tryd.underlying23 Tryd.underlying5 Tryd.underlying9 w.heap.size _ n c l (ky_sl h hg) hn

set_option maxRecDepth 100000 in
set_option maxHeartbeats 1600000 in
theorem kyknown_any (w : World) (hK : Kt w) :
    Calls Tryd.prog 6 #[] w fun e w' => e = .returned (.bool true) ∧ Below w.heap.size w w' := by
  have HK := Lib.hid hK
  obtain ⟨Z, hZ⟩ : ∃ Z, Z = kyRow kyZ := ⟨_, rfl⟩
  have hz0 := zero_ky
  rw [← hZ] at hz0
  have HZ0 := Deep.mk hz0
  have HZS : Deep (Z.size = 77) := ⟨by rw [hZ, kyZ_ok.size]⟩
  have HC := Deep.mk ex_c
  have HS := Deep.mk ex_s
  have HCO := Deep.mk (initK_ok cIn exCid (by decide))
  have HSO := Deep.mk (initK_ok sIn exCid (by decide))
  have HIN : Hid (∀ w' : World, ∀ A, Kt w' → Sl w' w'.heap.size A exCid → Calls Tryd.prog 8 #[.slice A 8 8] w' fun e w2 => e = .returned (.tuple #[.agg (kyRow (initK cIn exCid)), .agg (kyRow (initK sIn exCid))]) ∧ Below w'.heap.size w' w2) :=
    Lib.hid fun w' A h hs => initial_any exCid A 8 8 w' h rfl (Nat.le_refl _) (by unfold maxLen; omega) hs (by omega)
  generalize initK cIn exCid = C at *
  generalize initK sIn exCid = S at *
  clear hz0 hZ hK
  go_enter Tryd.func6, Tryd.ntmps6
  go_wp2_with fail
  obtain ⟨wt, hwt⟩ : ∃ wt, wt = w.alloc (.cells #[.int .u8 131, .int .u8 148, .int .u8 200, .int .u8 240, .int .u8 62, .int .u8 81, .int .u8 87, .int .u8 8] 5) := ⟨_, rfl⟩
  rw [← hwt]
  have hbt : Below w.heap.size w wt := by rw [hwt]; exact (Below.refl _ _).alloc (Nat.le_refl _) _
  have hsh : Sl wt wt.heap.size (some ⟨w.heap.size, 0, none⟩) exCid := by
    intro _
    refine ⟨w.heap.size, 0, rfl, by rw [hwt]; simp, fun i v hv => ?_⟩
    rw [hwt, Nat.zero_add, (Wh.new w _ _).cell, ← hv]
    rw [show (#[Value.int .u8 131, .int .u8 148, .int .u8 200, .int .u8 240, .int .u8 62, .int .u8 81, .int .u8 87, .int .u8 8] : Array Value) = (exCid.map cell8).toArray by kernel_rfl, List.getElem?_toArray]
  refine (HIN.out wt _ (HK.out.since hbt) hsh).mono ?_
  rintro e w1 ⟨rfl, hb1⟩
  have HB1 := Lib.hid (hbt.trans (hb1.mono hbt.size))
  clear hwt hbt hsh hb1 HIN HK
  obtain ⟨hb2, hz1, hz2, hsz⟩ := made2K w1 Z Z 29 29
  have hx1 := setRow_heap _ w1.heap.size _ (kyRow C) _ _ hz1
  have hx2 := (setRow_other _ w1.heap.size (w1.heap.size + 1) (kyRow C) (by omega)).trans hz2
  have hx3 := setRow_heap _ (w1.heap.size + 1) _ (kyRow S) _ _ hx2
  have hx4 := (setRow_other _ (w1.heap.size + 1) w1.heap.size (kyRow S) (by omega)).trans hx1
  have hb4 := below_setRow (below_setRow hb2 (Nat.le_refl _) (kyRow C)) (Nat.le_succ _) (kyRow S)
  have hb5 := HB1.out.trans (hb4.mono HB1.out.size)
  have HX1 := Lib.hid hz1
  have HX2 := Lib.hid hx2
  have HX3 := Lib.hid hx3
  have HX4 := Lib.hid hx4
  have HB5 := Lib.hid hb5
  clear hb2 hz1 hz2 hsz hx1 hx2 hx3 hx4 hb4 hb5 HB1
  go_upto_region 2 with (first
    | (refine wpList_allocZ rfl 29 rfl Z (HZ0.out _) ?_; rw [show (w1.alloc (.cells Z 29)).heap.size = w1.heap.size + 1 by simp])
    | (refine wpList_allocZ rfl 29 rfl Z (HZ0.out _) ?_)
    | (refine wpList_store_row rfl 29 (.tmp 1) (.tmp 6) rfl w1.heap.size (kyRow C) rfl rfl _ _ HX1.out (info_kyRow HCO.out) (by rw [HZS.out, HCO.out.size]) (kyRow_one _) ?_)
    | (refine wpList_store_row rfl 29 (.tmp 2) (.tmp 7) rfl (w1.heap.size + 1) (kyRow S) rfl rfl _ _ HX2.out (info_kyRow HSO.out) (by rw [HZS.out, HSO.out.size]) (kyRow_one _) ?_))
  obtain ⟨g, hg⟩ : ∃ g, g = w1.heap.size := ⟨_, rfl⟩
  rw [← hg] at HX3 HX4 HB5
  rw [← hg]
  generalize (((w1.alloc (.cells Z 29)).alloc (.cells Z 29)).setRow g (kyRow C)).setRow (g + 1) (kyRow S) = W at *
  have hc : Wh W g 29 (kyRow C) := HX4.out
  have hs : Wh W (g + 1) 29 (kyRow S) := HX3.out
  have e1 := HC.out
  have e2 := HS.out
  have s1 := ky_str (n := 16) (c := 16) (ky_key hc HCO.out) hc.lt HCO.out.key
  have s2 := ky_str (n := 12) (c := 12) (ky_iv hc HCO.out) hc.lt HCO.out.iv
  have s3 := ky_str (n := 16) (c := 16) (ky_hpr hc HCO.out) hc.lt HCO.out.hp
  have s4 := ky_str (n := 16) (c := 16) (ky_key hs HSO.out) hs.lt HSO.out.key
  have s5 := ky_str (n := 12) (c := 12) (ky_iv hs HSO.out) hs.lt HSO.out.iv
  have s6 := ky_str (n := 16) (c := 16) (ky_hpr hs HSO.out) hs.lt HSO.out.hp
  rw [e1] at s1 s2 s3
  rw [e2] at s4 s5 s6
  simp only [strB] at s1 s2 s3 s4 s5 s6
  have HBF := Lib.hid HB5.out
  clear e1 e2 hc hs HX1 HX2 HX3 HX4 hg HC HS HCO HSO HZ0 HZS
  go_wp2
  go_ret
  exact ⟨rfl, HBF.out⟩
end
end Go.Proofs.YtblclinfcdalaaaDoor
