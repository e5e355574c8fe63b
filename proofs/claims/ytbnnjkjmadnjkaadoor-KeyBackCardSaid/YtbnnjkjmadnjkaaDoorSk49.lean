/-
  key.Open, of a packet that opens. Printed by tools/gen_kbopen.py.
  key.Initial.
-/
import Derived.Test.YtbnnjkjmadnjkaaDoorKbUnm
import Derived.Test.YtbnnjkjmadnjkaaDoorSk4
import Derived.Test.YtbnnjkjmadnjkaaDoorGcOpen
import Derived.Lib.SlBytesConst
import Derived.Test.YtbnnjkjmadnjkaaDoorSk31
namespace Go.Proofs.YtbnnjkjmadnjkaaDoor
section
open Go.RowKit
set_option linter.unusedVariables false

set_option maxRecDepth 100000 in
set_option maxHeartbeats 1600000 in
theorem kopen_in (k : KS) (sp pn : Nat) (hdr box : List UInt8) (A1 : Option Addr) (n1 c1 : Nat) (A2 : Option Addr) (n2 c2 : Nat) (A3 : Option Addr) (n3 c3 : Nat) (ph : Bool) (pnb : Int) (A : Option Addr) (c : Nat) (A' : Option Addr) (c' : Nat) (w : World)
    (hk : k.Ok) (hpn : pn ≤ 4611686018427387903) (hs : Sl w w.heap.size A hdr) (hb : Sl w w.heap.size A' box) (hc : hdr.length ≤ c) (hcm : c ≤ maxLen) (hc' : box.length ≤ c') (hcm' : c' ≤ maxLen) (hl : hdr.length ≤ 1048576) (hl' : box.length ≤ 1048576)
    (hok : OkG k.key (nonK k.iv pn) hdr box) :
    Calls Tryd.prog 13 #[.agg (kyRow k), .agg (bareL9 sp A1 n1 c1 A2 n2 c2 A3 n3 c3 ph (pn : Int) pnb A hdr.length c A' box.length c').toArray] w (Gave w (txK k.key (nonK k.iv pn) box) fun v => .tuple #[v, .int .i64 0]) := by
  obtain ⟨hbe, h2, h3, hz⟩ := made2K w (kyRow k) (bareL9 sp A1 n1 c1 A2 n2 c2 A3 n3 c3 ph (pn : Int) pnb A hdr.length c A' box.length c').toArray 27 41
  have hr5 : ((bareL9 sp A1 n1 c1 A2 n2 c2 A3 n3 c3 ph (pn : Int) pnb A hdr.length c A' box.length c').toArray)[5]? = some (.int .u64 (pn : Int)) := rfl
  have hr7 : ((bareL9 sp A1 n1 c1 A2 n2 c2 A3 n3 c3 ph (pn : Int) pnb A hdr.length c A' box.length c').toArray)[7]? = some (.slice A hdr.length c) := rfl
  have hr8 : ((bareL9 sp A1 n1 c1 A2 n2 c2 A3 n3 c3 ph (pn : Int) pnb A hdr.length c A' box.length c').toArray)[8]? = some (.slice A' box.length c') := rfl
  have HK := Deep.mk hk
  generalize (bareL9 sp A1 n1 c1 A2 n2 c2 A3 n3 c3 ph (pn : Int) pnb A hdr.length c A' box.length c').toArray = R at *
  go_enter Tryd.func13, Tryd.ntmps13
  go_upto_region 1 with (fail)
  generalize (w.alloc (.cells (kyRow k) 27)).alloc (.cells R 41) = W at *
  obtain ⟨q, hq⟩ : ∃ q, q = w.heap.size := ⟨_, rfl⟩
  rw [← hq] at h2 h3 hz
  rw [← hq]
  obtain ⟨h, hh⟩ : ∃ h, h = q + 1 := ⟨_, rfl⟩
  rw [← hh] at h3 ⊢
  have h20 := h2.below (Below.refl _ _).drew h2.lt
  have h30 := h3.below (Below.refl _ _).drew h3.lt
  have b0 : Below w.heap.size w W.drew := hbe.drew
  refine wp_region_held_drew (S := fun w' => SinceK W.drew w') (by kernel_rfl) (SinceK.self _) (fun _ => ?_)
  generalize W.drew = w0 at *
  have rk := ky_key h20 HK.out
  have ri := ky_iv h20 HK.out
  have lq := h20.lt
  have lh := h30.lt
  have HC5 := Lib.hid ((h30.cell 5).trans hr5)
  have HC7 := Lib.hid ((h30.cell 7).trans hr7)
  have HC8 := Lib.hid ((h30.cell 8).trans hr8)
  have hkl := HK.out.key
  have hil := HK.out.iv
  have hno : ∀ w' : World, Calls Tryd.prog 17 #[.agg (aRow k.iv), .int .u64 (pn : Int)] w' fun e w2 => e = .returned (.agg (aRow (nonK k.iv pn))) ∧ Below w'.heap.size w' w2 := fun w' => nonce_any k.iv pn w' hil (by omega)
  have hnl := nonK_len hil pn
  have hop : ∀ (w' : World), SinceK w w' → Calls Tryd.prog 34 #[.agg (aRow k.key), .agg (aRow (nonK k.iv pn)), .slice A hdr.length c, .slice A' box.length c'] w' (OpenG w' k.key (nonK k.iv pn) hdr box) :=
    fun w' hS => gcopen_any k.key (nonK k.iv pn) hdr box A A' c c' w' hkl hnl (SinceK.sl hS hs) hc hcm hl (SinceK.sl hS hb) hc' hcm' hl'
  generalize hNN : nonK k.iv pn = N at *
  have HN := Deep.mk hNN
  clear hNN
  have HNO := Lib.hid hno
  have HOP := Lib.hid hop
  have HKL := Deep.mk hkl
  have HIL := Deep.mk hil
  have HOK := Deep.mk hok
  clear hno hop hkl hil hnl hok h2 h3 hz hbe hq hh hr5 hr7 hr8 hk hs hb
  refine wpAnyH_take (i := 0) (v := .pointer (some ⟨q, 32, none⟩)) (List.getElem?_toArray.trans rfl) (by kernel_rfl) (by kernel_rfl) (by kernel_rfl) (fun _ _ _ h => h) (.inl ⟨rfl, fun w' hS => by simp [go_sem]⟩) (SinceK.self _) ?_
  refine act_normS (by simp only [Act.put, List.setIfInBounds_toArray, List.set_cons_zero, List.set_cons_succ]; rfl) ?_
  refine wpAnyH_take (i := 1) (v := .agg (aRow k.key)) (List.getElem?_toArray.trans rfl) (by kernel_rfl) (by kernel_rfl) (by kernel_rfl) (fun _ _ _ h => h) (yieldsIf_load_mid (by rfl) 23 (.tmp 9) rfl q 32 rfl (k.key.map cell8) _ (fun w' hS => SinceK.range hS rk lq) Tryd.underlying23 rfl (by rw [List.length_map, HKL.out]; exact info_k16)) (SinceK.self _) ?_
  refine act_normS (by simp only [Act.put, List.setIfInBounds_toArray, List.set_cons_zero, List.set_cons_succ]; rfl) ?_
  refine wpAnyH_take (i := 2) (v := .pointer (some ⟨q, 48, none⟩)) (List.getElem?_toArray.trans rfl) (by kernel_rfl) (by kernel_rfl) (by kernel_rfl) (fun _ _ _ h => h) (.inl ⟨rfl, fun w' hS => by simp [go_sem]⟩) (SinceK.self _) ?_
  refine act_normS (by simp only [Act.put, List.setIfInBounds_toArray, List.set_cons_zero, List.set_cons_succ]; rfl) ?_
  refine wpAnyH_take (i := 3) (v := .agg (aRow k.iv)) (List.getElem?_toArray.trans rfl) (by kernel_rfl) (by kernel_rfl) (by kernel_rfl) (fun _ _ _ h => h) (yieldsIf_load_mid (by rfl) 24 (.tmp 11) rfl q 48 rfl (k.iv.map cell8) _ (fun w' hS => SinceK.range hS ri lq) Tryd.underlying24 rfl (by rw [List.length_map, HIL.out]; exact info_k12)) (SinceK.self _) ?_
  refine act_normS (by simp only [Act.put, List.setIfInBounds_toArray, List.set_cons_zero, List.set_cons_succ]; rfl) ?_
  refine wpAnyH_take (i := 4) (v := .pointer (some ⟨h, 0, none⟩)) (List.getElem?_toArray.trans rfl) (by kernel_rfl) (by kernel_rfl) (by kernel_rfl) (fun _ _ _ h => h) (.inl ⟨rfl, fun w' hS => by simp [go_sem]⟩) (SinceK.self _) ?_
  refine act_normS (by simp only [Act.put, List.setIfInBounds_toArray, List.set_cons_zero, List.set_cons_succ]; rfl) ?_
  refine wpAnyH_take (i := 5) (v := .pointer (some ⟨h, 5, none⟩)) (List.getElem?_toArray.trans rfl) (by kernel_rfl) (by kernel_rfl) (by kernel_rfl) (fun _ _ _ h => h) (.inl ⟨rfl, fun w' hS => by simp [go_sem]⟩) (SinceK.self _) ?_
  refine act_normS (by simp only [Act.put, List.setIfInBounds_toArray, List.set_cons_zero, List.set_cons_succ]; rfl) ?_
  refine wpAnyH_take (i := 6) (v := .int .u64 (pn : Int)) (List.getElem?_toArray.trans rfl) (by kernel_rfl) (by kernel_rfl) (by kernel_rfl) (fun _ _ _ h => h) (.inl ⟨rfl, fun w' hS => by have hc := (Below.cell (p := ⟨h, 5, none⟩) hS lh).trans HC5.out; simp [go_sem, hc]⟩) (SinceK.self _) ?_
  refine act_normS (by simp only [Act.put, List.setIfInBounds_toArray, List.set_cons_zero, List.set_cons_succ]; rfl) ?_
  refine wpAnyH_take (i := 8) (v := .pointer (some ⟨h, 7, none⟩)) (List.getElem?_toArray.trans rfl) (by kernel_rfl) (by kernel_rfl) (by kernel_rfl) (fun _ _ _ h => h) (.inl ⟨rfl, fun w' hS => by simp [go_sem]⟩) (SinceK.self _) ?_
  refine act_normS (by simp only [Act.put, List.setIfInBounds_toArray, List.set_cons_zero, List.set_cons_succ]; rfl) ?_
  refine wpAnyH_take (i := 9) (v := .slice A hdr.length c) (List.getElem?_toArray.trans rfl) (by kernel_rfl) (by kernel_rfl) (by kernel_rfl) (fun _ _ _ h => h) (.inl ⟨rfl, fun w' hS => by have hc := (Below.cell (p := ⟨h, 7, none⟩) hS lh).trans HC7.out; simp [go_sem, hc]⟩) (SinceK.self _) ?_
  refine act_normS (by simp only [Act.put, List.setIfInBounds_toArray, List.set_cons_zero, List.set_cons_succ]; rfl) ?_
  refine wpAnyH_take (i := 10) (v := .pointer (some ⟨h, 8, none⟩)) (List.getElem?_toArray.trans rfl) (by kernel_rfl) (by kernel_rfl) (by kernel_rfl) (fun _ _ _ h => h) (.inl ⟨rfl, fun w' hS => by simp [go_sem]⟩) (SinceK.self _) ?_
  refine act_normS (by simp only [Act.put, List.setIfInBounds_toArray, List.set_cons_zero, List.set_cons_succ]; rfl) ?_
  refine wpAnyH_take (i := 11) (v := .slice A' box.length c') (List.getElem?_toArray.trans rfl) (by kernel_rfl) (by kernel_rfl) (by kernel_rfl) (fun _ _ _ h => h) (.inl ⟨rfl, fun w' hS => by have hc := (Below.cell (p := ⟨h, 8, none⟩) hS lh).trans HC8.out; simp [go_sem, hc]⟩) (SinceK.self _) ?_
  refine act_normS (by simp only [Act.put, List.setIfInBounds_toArray, List.set_cons_zero, List.set_cons_succ]; rfl) ?_
  refine wpAnyH_ready (rs := [7]) (by kernel_rfl) (by simp) (AllReadyH.cons (List.getElem?_toArray.trans rfl) (fun K' hK => ?_) AllReadyH.nil)
  refine wanted_goS rfl ?_
  go_simp
  refine (HNO.out w0).mono ?_
  rintro e u1 ⟨rfl, hb1⟩
  have hS1 : SinceK w0 u1 := hb1
  refine hK.out _ _ hS1 (fun _ => ?_)
  clear hK K'
  refine wpAnyH_ready (rs := [12]) (by kernel_rfl) (by simp) (AllReadyH.cons (List.getElem?_toArray.trans rfl) (fun K' hK => ?_) AllReadyH.nil)
  refine wanted_goS rfl ?_
  go_simp
  refine (HOP.out u1 (b0.trans (Below.mono hS1 b0.size))).mono ?_
  rintro e u2 hg
  rcases hg with ⟨_, A5, c5, rfl, ha5, hc5, ho5, hb2⟩ | ⟨hno, _, _⟩
  case inr => exact absurd HOK.out hno
  obtain ⟨y, hy⟩ : ∃ y, y = txK k.key N box := ⟨_, rfl⟩
  rw [← hy] at ha5 ho5 ⊢
  have HY := Deep.mk hy
  clear hy
  have hS2 : SinceK w0 u2 := SinceK.trans hS1 hb2
  have hoE := own_base ho5 (Nat.le_trans b0.size (Below.size hS1))
  have bE := b0.trans (Below.mono hS2 b0.size)
  refine hK.out _ _ hS2 (fun _ => ?_)
  clear hK K'
  refine wpAnyH_take (i := 13) (v := .tuple #[.slice A5 y.length c5, .bool true]) (List.getElem?_toArray.trans rfl) (by kernel_rfl) (by kernel_rfl) (by kernel_rfl) (fun _ _ _ h => h) (.inl ⟨rfl, fun w' hS => rfl⟩) hS2 ?_
  refine act_normS (by simp only [Act.put, List.setIfInBounds_toArray, List.set_cons_zero, List.set_cons_succ]; rfl) ?_
  refine wpAnyH_take (i := 14) (v := .slice A5 y.length c5) (List.getElem?_toArray.trans rfl) (by kernel_rfl) (by kernel_rfl) (by kernel_rfl) (fun _ _ _ h => h) (.inl ⟨rfl, fun w' hS => by simp [go_sem]⟩) hS2 ?_
  refine act_normS (by simp only [Act.put, List.setIfInBounds_toArray, List.set_cons_zero, List.set_cons_succ]; rfl) ?_
  refine wpAnyH_take (i := 15) (v := .bool true) (List.getElem?_toArray.trans rfl) (by kernel_rfl) (by kernel_rfl) (by kernel_rfl) (fun _ _ _ h => h) (.inl ⟨rfl, fun w' hS => by simp [go_sem]⟩) hS2 ?_
  refine act_normS (by simp only [Act.put, List.setIfInBounds_toArray, List.set_cons_zero, List.set_cons_succ]; rfl) ?_
  refine wpAnyH_take (i := 16) (v := .slice A5 y.length c5) (List.getElem?_toArray.trans rfl) (by kernel_rfl) (by kernel_rfl) (by kernel_rfl) (fun _ _ _ h => h) (.inl ⟨rfl, fun w' hS => rfl⟩) hS2 ?_
  refine act_normS (by simp only [Act.put, List.setIfInBounds_toArray, List.set_cons_zero, List.set_cons_succ]; rfl) ?_
  refine wpAnyH_take (i := 17) (v := .bool true) (List.getElem?_toArray.trans rfl) (by kernel_rfl) (by kernel_rfl) (by kernel_rfl) (fun _ _ _ h => h) (.inl ⟨rfl, fun w' hS => rfl⟩) hS2 ?_
  refine act_normS (by simp only [Act.put, List.setIfInBounds_toArray, List.set_cons_zero, List.set_cons_succ]; rfl) ?_
  refine wpAnyH_done (by kernel_rfl) ?_ _
  clear hS1 hS2 hb1 hb2 HNO HOP rk ri
  go_wp2_with fail
  go_ret2
  show Gave w (txK k.key (nonK k.iv pn) box) _ _ _
  rw [HN.out, ← HY.out]
  exact ⟨A5, c5, rfl, ha5, hc5, hoE, bE⟩
end

section
open Go.RowKit
set_option linter.unusedVariables false

theorem results_cc {P : Program} {fn : Func} {a b : Tmp} {ta tb : TypeId} (h : fn.results = #[.cell a ta, .cell b tb]) (tmps : Array Value) (w : World) (pa pb : Addr) (va vb : Value)
    (ha : tmps.getD a undef = .pointer (some pa)) (la : (loadVar ta pa).run P w = .ok va w) (hb : tmps.getD b undef = .pointer (some pb)) (lb : (loadVar tb pb).run P w = .ok vb w) : (results fn tmps).run P w = .ok (.tuple #[va, vb]) w := by
  have ha' : tmps[a]?.getD undef = .pointer (some pa) := by simpa using ha
  have hb' : tmps[b]?.getD undef = .pointer (some pb) := by simpa using hb
  simp [results, h, ha', hb', asAddr, la, lb]
set_option maxRecDepth 100000 in
theorem load_ky {w : World} {g : Nat} {k : KS} (h : Wh w g 27 (kyRow k)) (hk : k.Ok) : (loadVar 27 ⟨g, 0, none⟩).run Tryd.prog w = .ok (.agg (kyRow k)) w :=
  run_loadVar_row w g _ _ _ _ _ h Tryd.underlying27 rfl (info_kyRow hk)

set_option maxRecDepth 100000 in
set_option maxHeartbeats 1600000 in
theorem initial_any (cid : List UInt8) (A : Option Addr) (m c : Nat) (w : World) (hK : Kt w) (hl : cid.length = m) (hlc : m ≤ c) (hcm : c ≤ maxLen) (hs : Sl w w.heap.size A cid) (hmax : m ≤ 15000000) :
    Calls Tryd.prog 14 #[.slice A m c] w fun e w' => e = .returned (.tuple #[.agg (kyRow (initK cIn cid)), .agg (kyRow (initK sIn cid))]) ∧ Below w.heap.size w w' := by
  have HL := Deep.mk hl
  have kc := fun (w : World) (C : Array Value) (n c : Nat) => Lib.run_convert_bytes_const (P := Tryd.prog) w 28 5 C n c Tryd.underlying28 Tryd.underlying5
  obtain ⟨hbe, h2, h3, h4⟩ := made2K w (kyRow kyZ) (kyRow kyZ) 27 27
  have HKW := Lib.hid (hK.since hbe)
  have HSW := Lib.hid ((Sv.below hs hbe).keep hbe.size (fun _ _ => rfl))
  obtain ⟨Z, hZ⟩ : ∃ Z, Z = kyRow kyZ := ⟨_, rfl⟩
  have hz0 := zero_ky
  rw [← hZ] at hz0 h3 hbe h2 h4 HKW HSW
  have HZ0 := Deep.mk hz0
  have HZ := Deep.mk hZ
  have HZS : Deep (Z.size = 77) := ⟨by rw [hZ, kyZ_ok.size]⟩
  clear hz0 hZ hK hs hl
  go_enter Tryd.func14, Tryd.ntmps14
  go_upto_region 1 with (refine wpList_allocZ rfl 27 rfl Z (HZ0.out _) ?_)
  rw [show (w.alloc (.cells Z 27)).heap.size = w.heap.size + 1 by simp]
  generalize (w.alloc (.cells Z 27)).alloc (.cells Z 27) = W at *
  obtain ⟨b, hb⟩ : ∃ b, b = w.heap.size := ⟨_, rfl⟩
  obtain ⟨r, hr⟩ : ∃ r, r = w.heap.size + 1 := ⟨_, rfl⟩
  rw [← hb] at h2
  rw [← hr] at h3 h4
  rw [← hr, ← hb]
  have hwb : w.heap.size ≤ b := by omega
  have hbr : b < r := by omega
  have H2 := Lib.hid h2
  have H3 := Lib.hid h3
  have HBE := Lib.hid hbe
  clear hb hr h2 h3 hbe h4
  go_wp2_with fail
  obtain ⟨wt, hwt⟩ : ∃ wt, wt = W.alloc (.cells #[.int .u8 56, .int .u8 118, .int .u8 44, .int .u8 247, .int .u8 245, .int .u8 89, .int .u8 52, .int .u8 179, .int .u8 77, .int .u8 23, .int .u8 154, .int .u8 230, .int .u8 164, .int .u8 200, .int .u8 12, .int .u8 173, .int .u8 204, .int .u8 187, .int .u8 127, .int .u8 10] 5 (20, 21)) := ⟨_, rfl⟩
  rw [← hwt]
  have hbt : Below W.heap.size W wt := by rw [hwt]; exact (Below.refl _ _).alloc (Nat.le_refl _) _
  have hst : wt.heap.size = W.heap.size + 1 := by rw [hwt]; simp
  have hsh : Sl wt wt.heap.size (some ⟨W.heap.size, 0, none⟩) saltK := by
    intro _
    refine ⟨W.heap.size, 0, rfl, by omega, fun i v hv => ?_⟩
    rw [hwt, World.cell?_alloc_mark, Nat.zero_add, ← hv]
    rw [show (#[Value.int .u8 56, .int .u8 118, .int .u8 44, .int .u8 247, .int .u8 245, .int .u8 89, .int .u8 52, .int .u8 179, .int .u8 77, .int .u8 23, .int .u8 154, .int .u8 230, .int .u8 164, .int .u8 200, .int .u8 12, .int .u8 173, .int .u8 204, .int .u8 187, .int .u8 127, .int .u8 10] : Array Value) = (saltK.map cell8).toArray by kernel_rfl, List.getElem?_toArray]
  have hkt : Kt wt := HKW.out.since hbt
  have hct : Sl wt wt.heap.size A cid := (Sv.below HSW.out hbt).keep hbt.size (fun _ _ => rfl)
  have hbwt : Below w.heap.size w wt := HBE.out.trans (hbt.mono HBE.out.size)
  have h2t := H2.out.below hbt H2.out.lt
  have h3t := H3.out.below hbt H3.out.lt
  clear kc
  refine (extract_any kW saltK cid _ 20 20 A m c wt kW_len hkt.1 hkt.2 rfl (Nat.le_refl _) (by unfold maxLen; omega) hsh (by omega) HL.out hlc hcm hct hmax).mono ?_
  rintro e w1 ⟨rfl, hb1⟩
  have hc1 : initK cIn cid = ofK (lb (macK kW saltK cid) cIn 32) := rfl
  have hc2 : initK sIn cid = ofK (lb (macK kW saltK cid) sIn 32) := rfl
  have hml : (macK kW saltK cid).length = 32 := macK_len _ _ _
  generalize macK kW saltK cid = M at *
  have HML := Deep.mk hml
  have hs1 := lb32 M cIn (by decide)
  have hs2 := lb32 M sIn (by decide)
  have HS1 : Hid (∀ w' : World, Kt w' → Calls Tryd.prog 26 #[.agg (bRow M), .string { data := #[99, 108, 105, 101, 110, 116, 32, 105, 110] }] w' fun e w2 => e = .returned (.agg (bRow (lb M cIn 32))) ∧ Below w'.heap.size w' w2) := Lib.hid fun w' h => secretOf_any M cIn w' h hml (by decide)
  have HS2 : Hid (∀ w' : World, Kt w' → Calls Tryd.prog 26 #[.agg (bRow M), .string { data := #[115, 101, 114, 118, 101, 114, 32, 105, 110] }] w' fun e w2 => e = .returned (.agg (bRow (lb M sIn 32))) ∧ Below w'.heap.size w' w2) := Lib.hid fun w' h => secretOf_any M sIn w' h hml (by decide)
  generalize lb M cIn 32 = s1 at *
  generalize lb M sIn 32 = s2 at *
  have HO1 : Hid (∀ w' : World, Kt w' → Calls Tryd.prog 25 #[.agg (bRow s1)] w' fun e w2 => e = .returned (.agg (kyRow (ofK s1))) ∧ Below w'.heap.size w' w2) := Lib.hid fun w' h => of_any s1 w' h hs1
  have HO2 : Hid (∀ w' : World, Kt w' → Calls Tryd.prog 25 #[.agg (bRow s2)] w' fun e w2 => e = .returned (.agg (kyRow (ofK s2))) ∧ Below w'.heap.size w' w2) := Lib.hid fun w' h => of_any s2 w' h hs2
  have hk1 := ofK_ok hs1
  have hk2 := ofK_ok hs2
  generalize ofK s1 = K1 at *
  generalize ofK s2 = K2 at *
  have HC1 := Deep.mk hc1
  have HC2 := Deep.mk hc2
  have HK1 := Deep.mk hk1
  have HK2 := Deep.mk hk2
  have H21 := Lib.hid (h2t.below hb1 h2t.lt)
  have H31 := Lib.hid (h3t.below hb1 h3t.lt)
  have HB1 := Lib.hid (hbwt.trans (hb1.mono hbwt.size))
  have HKT := Lib.hid (hkt.since hb1)
  clear hwt hbt hst hsh hkt hct hbwt h2t h3t hb1 hc1 hc2 hml hs1 hs2 hk1 hk2 H2 H3 HBE HKW HSW
  go_upto_region 2 with (first
    | (refine wpList_allocZ rfl 22 rfl (bRow (List.replicate 32 0)) (zero_b32 _) ?_)
    | (refine wpList_store_row rfl 22 (.tmp 4) (.tmp 8) rfl w1.heap.size (bRow M) rfl rfl _ _ (heap_alloc_new w1 _) (info_bRow HML.out) (by rw [bRow_size, bRow_size, HML.out]; rfl) (bRow_one _) ?_; rw [World.setRow_alloc_new]))
  obtain ⟨n, hn⟩ : ∃ n, n = w1.heap.size := ⟨_, rfl⟩
  have h5 := Wh.new w1 22 (bRow M)
  have hb3 := HB1.out.alloc HB1.out.size (.cells (bRow M) 22)
  have hk3 := HKT.out.since ((Below.refl _ _).alloc (Nat.le_refl _) (.cells (bRow M) 22))
  have h23 := H21.out.alloc (.cells (bRow M) 22)
  have h33 := H31.out.alloc (.cells (bRow M) 22)
  have hrn : r < n := by rw [hn]; exact H31.out.lt
  rw [← hn] at h5
  rw [← hn]
  generalize w1.alloc (.cells (bRow M) 22) = w3 at *
  have hk0 : Kt w3.drew := hk3
  have hr0 : w3.drew.rangeAt n 0 (M.map cell8) := by have := row_rangeS h5; rwa [bRow_list] at this
  have hn0 : n < w3.drew.heap.size := h5.lt
  have hz1 : Wh w3.drew b 27 (kyRow kyZ) := by rw [← HZ.out]; exact h23
  have hz2 : Wh w3.drew r 27 (kyRow kyZ) := by rw [← HZ.out]; exact h33
  have hB0 : Below w.heap.size w w3.drew := hb3.drew
  clear hn h5 hb3 hk3 h23 h33 H21 H31 HB1 HKT
  refine wp_region_held_drew (S := fun w' => w'.rangeAt n 0 (M.map cell8)) (by kernel_rfl) hr0 (fun _ => ?_)
  generalize w3.drew = w0 at *
  refine wpAnyH_take (i := 0) (v := .agg (bRow M)) (List.getElem?_toArray.trans rfl) (by kernel_rfl) (by kernel_rfl) (by kernel_rfl) (fun _ _ _ h => h) (yieldsIf_load_mid (by rfl) 22 (.tmp 4) rfl n 0 rfl (M.map cell8) _ (fun w' hS => hS) Tryd.underlying22 rfl (by rw [List.length_map, HML.out]; exact info_k32)) hr0 ?_
  refine act_normS (by simp only [Act.put, List.setIfInBounds_toArray, List.set_cons_zero, List.set_cons_succ]; rfl) ?_
  refine wpAnyH_take (i := 3) (v := .agg (bRow M)) (List.getElem?_toArray.trans rfl) (by kernel_rfl) (by kernel_rfl) (by kernel_rfl) (fun _ _ _ h => h) (yieldsIf_load_mid (by rfl) 22 (.tmp 4) rfl n 0 rfl (M.map cell8) _ (fun w' hS => hS) Tryd.underlying22 rfl (by rw [List.length_map, HML.out]; exact info_k32)) hr0 ?_
  refine act_normS (by simp only [Act.put, List.setIfInBounds_toArray, List.set_cons_zero, List.set_cons_succ]; rfl) ?_
  refine wpAnyH_ready (rs := [1]) (by kernel_rfl) (by simp) (AllReadyH.cons (List.getElem?_toArray.trans rfl) (fun K' hK => ?_) AllReadyH.nil)
  refine wanted_goS rfl ?_
  go_simp
  refine (HS1.out w0 hk0).mono ?_
  rintro e wd0 ⟨rfl, hbwd0⟩
  have hrwd0 := rangeAt_below hr0 hbwd0 hn0
  have hnwd0 := Nat.lt_of_lt_of_le hn0 hbwd0.size
  have hkwd0 := hk0.since hbwd0
  have hz1wd0 := hz1.below hbwd0 hz1.lt
  have hz2wd0 := hz2.below hbwd0 hz2.lt
  have hBwd0 := hB0.trans (hbwd0.mono hB0.size)
  refine hK.out _ _ hrwd0 (fun _ => ?_)
  clear hK K'
  refine wpAnyH_ready (rs := [2]) (by kernel_rfl) (by simp) (AllReadyH.cons (List.getElem?_toArray.trans rfl) (fun K' hK => ?_) AllReadyH.nil)
  refine wanted_goS rfl ?_
  go_simp
  refine (HO1.out wd0 hkwd0).mono ?_
  rintro e wd1 ⟨rfl, hbwd1⟩
  have hrwd1 := rangeAt_below hrwd0 hbwd1 hnwd0
  have hnwd1 := Nat.lt_of_lt_of_le hnwd0 hbwd1.size
  have hkwd1 := hkwd0.since hbwd1
  have hz1wd1 := hz1wd0.below hbwd1 hz1wd0.lt
  have hz2wd1 := hz2wd0.below hbwd1 hz2wd0.lt
  have hBwd1 := hBwd0.trans (hbwd1.mono hBwd0.size)
  refine hK.out _ _ hrwd1 (fun _ => ?_)
  clear hK K'
  refine wpAnyH_ready (rs := [4]) (by kernel_rfl) (by simp) (AllReadyH.cons (List.getElem?_toArray.trans rfl) (fun K' hK => ?_) AllReadyH.nil)
  refine wanted_goS rfl ?_
  go_simp
  refine (HS2.out wd1 hkwd1).mono ?_
  rintro e wd2 ⟨rfl, hbwd2⟩
  have hrwd2 := rangeAt_below hrwd1 hbwd2 hnwd1
  have hnwd2 := Nat.lt_of_lt_of_le hnwd1 hbwd2.size
  have hkwd2 := hkwd1.since hbwd2
  have hz1wd2 := hz1wd1.below hbwd2 hz1wd1.lt
  have hz2wd2 := hz2wd1.below hbwd2 hz2wd1.lt
  have hBwd2 := hBwd1.trans (hbwd2.mono hBwd1.size)
  refine hK.out _ _ hrwd2 (fun _ => ?_)
  clear hK K'
  refine wpAnyH_ready (rs := [5]) (by kernel_rfl) (by simp) (AllReadyH.cons (List.getElem?_toArray.trans rfl) (fun K' hK => ?_) AllReadyH.nil)
  refine wanted_goS rfl ?_
  go_simp
  refine (HO2.out wd2 hkwd2).mono ?_
  rintro e wd3 ⟨rfl, hbwd3⟩
  have hrwd3 := rangeAt_below hrwd2 hbwd3 hnwd2
  have hnwd3 := Nat.lt_of_lt_of_le hnwd2 hbwd3.size
  have hkwd3 := hkwd2.since hbwd3
  have hz1wd3 := hz1wd2.below hbwd3 hz1wd2.lt
  have hz2wd3 := hz2wd2.below hbwd3 hz2wd2.lt
  have hBwd3 := hBwd2.trans (hbwd3.mono hBwd2.size)
  refine hK.out _ _ hrwd3 (fun _ => ?_)
  clear hK K'
  obtain ⟨hx1, hv1⟩ := Wh.allK (ds := kyL K1) hz1wd3 (by rw [HK1.out.len, kyZ_ok.len])
  have hrx : (wd3.setCells b 0 (kyL K1)).rangeAt n 0 (M.map cell8) := fun j v hv => (World.cell?_of_block (hv1.block n hnwd3 (fun e => by have := Option.some.inj e; omega))).trans (hrwd3 j v hv)
  have hzx := hz2wd3.grown hv1 (fun e => by have := Option.some.inj e; omega)
  have hBx := below_grown hBwd3 hv1 hwb hBwd3.size
  refine wpAnyH_ready (rs := [6]) (by kernel_rfl) (by simp) (AllReadyH.cons (List.getElem?_toArray.trans rfl) (fun K' hK => ?_) AllReadyH.nil)
  refine wanted_goS rfl ?_
  refine wp_store_mid 27 (.tmp 2) (.tmp 11) rfl b 0 (kyRow K1) rfl rfl (by rw [HK1.out.size]; exact Wh.thereK hz1wd3 0 77 (by rw [kyZ_ok.len]; omega)) (info_kyRow HK1.out) (kyRow_one _) ?_
  rw [kyRow_list]
  refine hK.out _ _ hrx (fun _ => ?_)
  clear hK K'
  have hnx : n < (wd3.setCells b 0 (kyL K1)).heap.size := Nat.lt_of_lt_of_le hnwd3 hv1.size
  generalize wd3.setCells b 0 (kyL K1) = wx at *
  obtain ⟨hx2, hv2⟩ := Wh.allK (ds := kyL K2) hzx (by rw [HK2.out.len, kyZ_ok.len])
  have hry : (wx.setCells r 0 (kyL K2)).rangeAt n 0 (M.map cell8) := fun j v hv => (World.cell?_of_block (hv2.block n hnx (fun e => by have := Option.some.inj e; omega))).trans (hrx j v hv)
  have hxy := hx1.grown hv2 (fun e => by have := Option.some.inj e; omega)
  have hBy := below_grown hBx hv2 (by omega) hBx.size
  refine wpAnyH_ready (rs := [7]) (by kernel_rfl) (by simp) (AllReadyH.cons (List.getElem?_toArray.trans rfl) (fun K' hK => ?_) AllReadyH.nil)
  refine wanted_goS rfl ?_
  refine wp_store_mid 27 (.tmp 3) (.tmp 14) rfl r 0 (kyRow K2) rfl rfl (by rw [HK2.out.size]; exact Wh.thereK hzx 0 77 (by rw [kyZ_ok.len]; omega)) (info_kyRow HK2.out) (kyRow_one _) ?_
  rw [kyRow_list]
  refine hK.out _ _ hry (fun _ => ?_)
  clear hK K'
  refine wpAnyH_done (by kernel_rfl) ?_ _
  generalize wx.setCells r 0 (kyL K2) = wy at *
  go_wp2_with fail
  refine bodyPost_ret (v := .tuple #[.agg (kyRow K1), .agg (kyRow K2)]) (results_cc Tryd.results14 _ _ ⟨b, 0, none⟩ ⟨r, 0, none⟩ _ _ rfl (load_ky hxy HK1.out) rfl (load_ky hx2 HK2.out)) rfl ?_
  exact ⟨by rw [HC1.out, HC2.out], hBy⟩
end
end Go.Proofs.YtbnnjkjmadnjkaaDoor
