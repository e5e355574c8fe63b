/-
  hostlerref09.New, Key.Block, Key.stream. Printed by tools/gen_gcrkey.py.
  The document's own mask (hostlerref10). Printed by tools/gen_kprmask.py.
-/
import Derived.Test.YtblclinfcdalaaaDoorSb39
import Derived.Test.YtblclinfcdalaaaDoorAsRSeal
import Derived.Test.YtblclinfcdalaaaDoorSb37
import Derived.Test.YtblclinfcdalaaaDoorSb20
namespace Go.Proofs.YtblclinfcdalaaaDoor
section
open Go.RowKit
set_option linter.unusedVariables false

/-- The document's own key: its box, its columns. -/
def kRow (Ab Aw : Option Addr) (cb cw : Nat) : Array Value := #[.slice Ab 256 cb, .slice Aw 176 cw]
def KeyIs (w : World) (B : Nat) (Ab Aw : Option Addr) (key : List UInt8) : Prop := Sl w B Ab oT ∧ Sl w B Aw (ksL key).flatten
def GaveK (w : World) (key : List UInt8) (e : Ending) (w' : World) : Prop :=
  ∃ Ab Aw cb cw, e = .returned (.agg (kRow Ab Aw cb cw)) ∧ KeyIs w' w'.heap.size Ab Aw key ∧ Below w.heap.size w w'
theorem KeyIs.below {w w' : World} {B : Nat} {Ab Aw : Option Addr} {key : List UInt8} (h : KeyIs w B Ab Aw key) (hb : Below B w w') : KeyIs w' B Ab Aw key := ⟨h.1.below hb, h.2.below hb⟩
theorem KeyIs.mono {w : World} {B B' : Nat} {Ab Aw : Option Addr} {key : List UInt8} (h : KeyIs w B Ab Aw key) (hb : B ≤ B') : KeyIs w B' Ab Aw key := ⟨h.1.keep hb (fun _ _ => rfl), h.2.keep hb (fun _ _ => rfl)⟩
theorem info_key (Ab Aw : Option Addr) (cb cw : Nat) : (Tryd.prog.info? 73).map (·.size) = some (kRow Ab Aw cb cw).size := by kernel_rfl
theorem built_key (Ab Aw : Option Addr) (cb cw : Nat) : Tryd.prog.built 73 [(0, .slice Ab 256 cb), (1, .slice Aw 176 cw)] = some (kRow Ab Aw cb cw) := by kernel_rfl
theorem gave_n' {w w' : World} {l m : List UInt8} {e : Ending} {n : Nat} (hm : l = m) (hl : m.length = n) (h : GaveO w l e w') : GaveN w n m e w' := by
  subst hm
  exact gave_n hl h
theorem ks_flat {key : List UInt8} (h : key.length = 16) : (ksL key).flatten.length = 176 := (ksL_b h).flat

theorem kRow_one (Ab Aw : Option Addr) (cb cw : Nat) : (kRow Ab Aw cb cw).all (·.oneCell') = true := by simp [kRow, Value.oneCell']

set_option maxRecDepth 100000 in
set_option maxHeartbeats 1000000 in
theorem rnew_any (key : List UInt8) (A : Option Addr) (c D : Nat) (w : World) (hD : D ≤ w.heap.size) (hk : key.length = 16) (hs : Sl w D A key) :
    Calls Tryd.prog 40 #[.slice A 16 c] w (GaveK w key) := by
  have HKL := Deep.mk hk
  have HS := Lib.hid hs
  clear hk hs
  go_enter Tryd.func40, Tryd.ntmps40
  go_upto_region 1 with (fail)
  obtain ⟨kb, hkb⟩ : ∃ b, b = w.heap.size := ⟨_, rfl⟩
  have h1 := Wh.new w 73 #[.slice none 0 0, .slice none 0 0]
  have hbe : Below w.heap.size w (w.alloc (.cells #[.slice none 0 0, .slice none 0 0] 73)) := (Below.refl _ _).alloc (Nat.le_refl _) _
  rw [← hkb] at h1 ⊢
  have hwk : w.heap.size ≤ kb := by omega
  have hk1 : kb + 1 ≤ (w.alloc (.cells #[.slice none 0 0, .slice none 0 0] 73)).heap.size := by rw [hkb]; simp
  generalize w.alloc (.cells #[.slice none 0 0, .slice none 0 0] 73) = w1 at *
  have H1 := Lib.hid h1
  have HB1 := Lib.hid hbe
  clear hkb h1 hbe
  go_wp2_with fail
  refine (box_any w1).mono ?_
  intro e w2 hg
  obtain ⟨Ab, cb, rfl, hb1, hb2, hbo, hbb⟩ := gave_n oT_len hg
  have HB2 := Lib.hid (HB1.out.trans (hbb.mono HB1.out.size))
  have H2 := Lib.hid (H1.out.below hbb H1.out.lt)
  have HSB := Lib.hid (Sv.of_own hbo : Sl w2 w2.heap.size Ab oT)
  have HYB := Lib.hid (Sy.of_own hbo hk1)
  have hk2 : kb + 1 ≤ w2.heap.size := Nat.le_trans hk1 hbb.size
  clear hg hb1 hb2 hbo hbb H1 HB1
  have hcol := cols_any key Ab A cb c w2.heap.size w2 (Nat.le_refl _) HKL.out HSB.out ((HS.out.below (HB2.out.mono hD)).keep (Nat.le_trans hD HB2.out.size) (fun _ _ => rfl))
  have HCOL := Lib.hid hcol
  clear hcol
  go_wp2_with fail
  refine HCOL.out.mono ?_
  intro e w3 hg
  obtain ⟨Aw, cw, rfl, hw1, hw2, hwo, hwb⟩ := gave_n' (cl_ks HKL.out) (ks_flat HKL.out) hg
  have HB3 := Lib.hid (HB2.out.trans (hwb.mono HB2.out.size))
  have H3 := Lib.hid (H2.out.below hwb H2.out.lt)
  have HYB3 := Lib.hid (HYB.out.below hwb)
  have HYW3 := Lib.hid (Sy.of_own hwo hk2)
  clear hg hw1 hw2 hwo hwb H2 HB2 HSB HCOL
  go_wp2_with (first
    | (refine wpList_store_row rfl 73 (.tmp 2) (.tmp 9) rfl kb (kRow Ab Aw cb cw) rfl rfl _ _ H3.out (info_key Ab Aw cb cw) rfl (kRow_one _ _ _ _) ?_))
  have hwr := setRow_heap w3 kb _ (kRow Ab Aw cb cw) _ _ H3.out
  refine bodyPost_ret (v := .agg (kRow Ab Aw cb cw)) (results_cell_row Tryd.results40 _ _ kb _ _ (0, 0) _ rfl hwr Tryd.underlying73 rfl (info_key Ab Aw cb cw)) rfl ?_
  have hgs := grown_setRow w3 kb (kRow Ab Aw cb cw)
  exact ⟨Ab, Aw, cb, cw, rfl, ⟨(HYB3.out.grown hgs (fun g hg => by have := Option.some.inj hg; omega)).sv, (HYW3.out.grown hgs (fun g hg => by have := Option.some.inj hg; omega)).sv⟩, below_setRow HB3.out hwk _⟩

set_option maxRecDepth 100000 in
set_option maxHeartbeats 1000000 in
theorem rblock_any (key l : List UInt8) (Ab Aw A : Option Addr) (cb cw c B : Nat) (w : World) (hB : B ≤ w.heap.size) (hk : key.length = 16) (hK : KeyIs w B Ab Aw key) (hl : l.length = 16) (hs : Sl w B A l) :
    Calls Tryd.prog 79 #[.agg (kRow Ab Aw cb cw), .slice A 16 c] w fun e w' => ∃ A' c', e = .returned (.slice A' 16 c') ∧ Sy w' w.heap.size A' ((seL (ksL key) l).map cell8) ∧ Below w.heap.size w w' := by
  have h1 := Wh.new w 73 (kRow Ab Aw cb cw)
  have hbe : Below w.heap.size w (w.alloc (.cells (kRow Ab Aw cb cw) 73)) := (Below.refl _ _).alloc (Nat.le_refl _) _
  have HSEAL := Lib.hid (rseal_young (ksL key) l Ab Aw A cb cw c B (w.alloc (.cells (kRow Ab Aw cb cw) 73)) (Nat.le_trans hB hbe.size) (ksL_b hk) hl (hK.1.below (hbe.mono hB)) (hK.2.below (hbe.mono hB)) (hs.below (hbe.mono hB)))
  have HBE := Lib.hid hbe
  have HBA := hbe.size
  clear hK hs hbe
  go_enter Tryd.func79, Tryd.ntmps79
  obtain ⟨kb, hkb⟩ : ∃ b, b = w.heap.size := ⟨_, rfl⟩
  go_upto_region 1 with (fail)
  rw [← hkb] at h1 ⊢
  generalize w.alloc (.cells (kRow Ab Aw cb cw) 73) = w1 at *
  have hc0 : w1.cell? ⟨kb, 0, none⟩ = some (.slice Ab 256 cb) := (h1.cell 0).trans rfl
  have hc1 : w1.cell? ⟨kb, 1, none⟩ = some (.slice Aw 176 cw) := (h1.cell 1).trans rfl
  clear hkb h1
  go_wp2_with fail
  refine HSEAL.out.mono ?_
  rintro e w2 ⟨A', c', rfl, hs', hb'⟩
  have HS' := Lib.hid hs'
  have HB' := Lib.hid (HBE.out.trans (hb'.mono HBE.out.size))
  clear hc0 hc1 hs' hb' HSEAL
  go_wp2
  go_ret
  exact ⟨A', c', rfl, HS'.out.mono HBA, HB'.out⟩

theorem wrap_byte (m : Nat) : IntKind.u8.wrap (m : Int) = ((UInt8.ofNat (m % 256)).toNat : Int) := by
  have e : (UInt8.ofNat (m % 256)).toNat = m % 256 := by simp
  rw [e, IntKind.wrap_u8', Int.natCast_emod]
  rfl

set_option maxRecDepth 100000 in
set_option maxHeartbeats 1000000 in
theorem rstream_any (key nn : List UInt8) (Ab Aw A : Option Addr) (cb cw c B n : Nat) (w : World) (hB : B ≤ w.heap.size) (hk : key.length = 16) (hK : KeyIs w B Ab Aw key) (hl : nn.length = 12) (hs : Sl w B A nn) (hn : n < 4294967296) :
    Calls Tryd.prog 115 #[.agg (kRow Ab Aw cb cw), .slice A 12 c, .int .u32 (n : Int)] w fun e w' => ∃ A' c', e = .returned (.slice A' 16 c') ∧ Sy w' w.heap.size A' ((stG (ksL key) nn n).map cell8) ∧ Below w.heap.size w w' := by
  obtain ⟨i0, hi0, hz0, hz1, hz2⟩ := info_parts info8A
  have HKL := Deep.mk hk
  have HNL := Deep.mk hl
  have h1 := Wh.new w 73 (kRow Ab Aw cb cw)
  have hbe : Below w.heap.size w (w.alloc (.cells (kRow Ab Aw cb cw) 73)) := (Below.refl _ _).alloc (Nat.le_refl _) _
  have hK1 := hK.below (hbe.mono hB)
  have hs1 := hs.below (hbe.mono hB)
  have hB1 : B ≤ (w.alloc (.cells (kRow Ab Aw cb cw) 73)).heap.size := Nat.le_trans hB hbe.size
  clear hk hK hl hs
  go_enter Tryd.func115, Tryd.ntmps115
  go_upto_region 1 with (fail)
  obtain ⟨kb, hkb⟩ : ∃ b, b = w.heap.size := ⟨_, rfl⟩
  rw [← hkb] at h1 ⊢
  generalize w.alloc (.cells (kRow Ab Aw cb cw) 73) = w1 at *
  have HBE := Lib.hid hbe
  have H1 := Lib.hid h1
  have HK1 := Lib.hid hK1
  have hnl : (nn.map cell8).length = 12 := by rw [List.length_map, HNL.out]
  clear hkb h1 hbe hK1
  go_upto_region 2 with (first
    | (at_builtin; refine wpList_append_sv _ rfl (.tmp 8) (.tmp 9) _ rfl w1.heap.size 5 i0 _ 1 Tryd.underlying23 hi0 hz0 hz1 hz2 rfl (.slice (some ⟨w1.heap.size, 0, none⟩) 0 0) 0 [] rfl (own_none w1 5) B A 12 c (nn.map cell8) rfl (sv_alloc hs1 hB1 _) hnl (cell8_one _) (by unfold maxLen; omega) (by omega) (by simp) ?_; intro vw2 w2 how2 hgw2 _; rw [Nat.zero_add, List.nil_append] at how2; have HOw2 := Lib.hid how2; have HCw2 := Lib.hid (below_clone hgw2 (Nat.le_refl _)); clear how2 hgw2))
  obtain ⟨A7, c7, rfl, h71, h72⟩ := own_form HOw2.out
  have hG : Below w1.heap.size w1 w2.drew := HCw2.out.drew
  have hown : w2.drew.ownsRow w1.heap.size 5 1 (.slice A7 12 c7) 12 (nn.map cell8) := HOw2.out
  have HKB := Lib.hid H1.out.lt
  obtain ⟨n0, hn0⟩ : ∃ m, m = n / 16777216 := ⟨_, rfl⟩
  obtain ⟨n1, hn1⟩ : ∃ m, m = n / 65536 := ⟨_, rfl⟩
  obtain ⟨n2, hn2⟩ : ∃ m, m = n / 256 := ⟨_, rfl⟩
  have HD0 : Hid ((n : Int) / 16777216 = (n0 : Int)) := Lib.hid (by omega)
  have HD1 : Hid ((n : Int) / 65536 = (n1 : Int)) := Lib.hid (by omega)
  have HD2 : Hid ((n : Int) / 256 = (n2 : Int)) := Lib.hid (by omega)
  have hw0 := wrap_byte n0
  have hw1 := wrap_byte n1
  have hw2 := wrap_byte n2
  have hw3 := wrap_byte n
  obtain ⟨x0, hx0⟩ : ∃ x, x = UInt8.ofNat (n0 % 256) := ⟨_, rfl⟩
  obtain ⟨x1, hx1⟩ : ∃ x, x = UInt8.ofNat (n1 % 256) := ⟨_, rfl⟩
  obtain ⟨x2, hx2⟩ : ∃ x, x = UInt8.ofNat (n2 % 256) := ⟨_, rfl⟩
  obtain ⟨x3, hx3⟩ : ∃ x, x = UInt8.ofNat (n % 256) := ⟨_, rfl⟩
  rw [← hx0] at hw0
  rw [← hx1] at hw1
  rw [← hx2] at hw2
  rw [← hx3] at hw3
  have HBE4 : Deep (be4 n = [x0, x1, x2, x3]) := ⟨by rw [hx0, hx1, hx2, hx3, hn0, hn1, hn2]; rfl⟩
  have HW0 := Lib.hid hw0
  have HW1 := Lib.hid hw1
  have HW2 := Lib.hid hw2
  have HW3 := Lib.hid hw3
  have h0w : IntKind.u32.wrap (n0 : Int) = (n0 : Int) := IntWalk.u32_in _ (by omega)
  have h1w : IntKind.u32.wrap (n1 : Int) = (n1 : Int) := IntWalk.u32_in _ (by omega)
  have h2w : IntKind.u32.wrap (n2 : Int) = (n2 : Int) := IntWalk.u32_in _ (by omega)
  have HU0 := Lib.hid h0w
  have HU1 := Lib.hid h1w
  have HU2 := Lib.hid h2w
  clear hn0 hn1 hn2 hw0 hw1 hw2 hw3 hx0 hx1 hx2 hx3 h0w h1w h2w hs1 hnl HOw2 HCw2
  refine wp_region_held_drew (S := fun w' => Below w1.heap.size w1 w') (by kernel_rfl) hG (fun _ => ?_)
  generalize w2.drew = w3 at *
  refine wpAnyH_take (i := 0) (v := .agg (kRow Ab Aw cb cw)) (List.getElem?_toArray.trans rfl) (by kernel_rfl) (by kernel_rfl) (by kernel_rfl) (fun _ _ _ h => h) (yieldsIf_load_mid (by rfl) 73 (.tmp 3) rfl kb 0 rfl [.slice Ab 256 cb, .slice Aw 176 cw] _ (fun w' hS => Wh.whole (H1.out.below hS HKB.out)) Tryd.underlying73 rfl (info_key Ab Aw cb cw)) hG ?_
  refine act_normM (by simp only [Act.put, List.setIfInBounds_toArray, List.set_cons_zero, List.set_cons_succ]; rfl) ?_
  refine wpAnyH_take (i := 1) (v := .slice A7 12 c7) (List.getElem?_toArray.trans rfl) (by kernel_rfl) (by kernel_rfl) (by kernel_rfl) (fun _ _ _ h => h) (.inl ⟨rfl, fun w' hS => rfl⟩) hG ?_
  refine act_normM (by simp only [Act.put, List.setIfInBounds_toArray, List.set_cons_zero, List.set_cons_succ]; rfl) ?_
  refine wpAnyH_take (i := 2) (v := .int .u32 (n : Int)) (List.getElem?_toArray.trans rfl) (by kernel_rfl) (by kernel_rfl) (by kernel_rfl) (fun _ _ _ h => h) (.inl ⟨rfl, fun w' hS => rfl⟩) hG ?_
  refine act_normM (by simp only [Act.put, List.setIfInBounds_toArray, List.set_cons_zero, List.set_cons_succ]; rfl) ?_
  refine wpAnyH_take (i := 3) (v := .int .u32 (n0 : Int)) (List.getElem?_toArray.trans rfl) (by kernel_rfl) (by kernel_rfl) (by kernel_rfl) (fun _ _ _ h => h) (.inl ⟨rfl, fun w' hS => by simp [go_sem, HD0.out, HU0.out]⟩) hG ?_
  refine act_normM (by simp only [Act.put, List.setIfInBounds_toArray, List.set_cons_zero, List.set_cons_succ]; rfl) ?_
  refine wpAnyH_take (i := 4) (v := .int .u8 (x0.toNat : Int)) (List.getElem?_toArray.trans rfl) (by kernel_rfl) (by kernel_rfl) (by kernel_rfl) (fun _ _ _ h => h) (.inl ⟨rfl, fun w' hS => by simp [go_sem, HW0.out]⟩) hG ?_
  refine act_normM (by simp only [Act.put, List.setIfInBounds_toArray, List.set_cons_zero, List.set_cons_succ]; rfl) ?_
  refine wpAnyH_take (i := 5) (v := .int .u32 (n : Int)) (List.getElem?_toArray.trans rfl) (by kernel_rfl) (by kernel_rfl) (by kernel_rfl) (fun _ _ _ h => h) (.inl ⟨rfl, fun w' hS => rfl⟩) hG ?_
  refine act_normM (by simp only [Act.put, List.setIfInBounds_toArray, List.set_cons_zero, List.set_cons_succ]; rfl) ?_
  refine wpAnyH_take (i := 6) (v := .int .u32 (n1 : Int)) (List.getElem?_toArray.trans rfl) (by kernel_rfl) (by kernel_rfl) (by kernel_rfl) (fun _ _ _ h => h) (.inl ⟨rfl, fun w' hS => by simp [go_sem, HD1.out, HU1.out]⟩) hG ?_
  refine act_normM (by simp only [Act.put, List.setIfInBounds_toArray, List.set_cons_zero, List.set_cons_succ]; rfl) ?_
  refine wpAnyH_take (i := 7) (v := .int .u8 (x1.toNat : Int)) (List.getElem?_toArray.trans rfl) (by kernel_rfl) (by kernel_rfl) (by kernel_rfl) (fun _ _ _ h => h) (.inl ⟨rfl, fun w' hS => by simp [go_sem, HW1.out]⟩) hG ?_
  refine act_normM (by simp only [Act.put, List.setIfInBounds_toArray, List.set_cons_zero, List.set_cons_succ]; rfl) ?_
  refine wpAnyH_take (i := 8) (v := .int .u32 (n : Int)) (List.getElem?_toArray.trans rfl) (by kernel_rfl) (by kernel_rfl) (by kernel_rfl) (fun _ _ _ h => h) (.inl ⟨rfl, fun w' hS => rfl⟩) hG ?_
  refine act_normM (by simp only [Act.put, List.setIfInBounds_toArray, List.set_cons_zero, List.set_cons_succ]; rfl) ?_
  refine wpAnyH_take (i := 9) (v := .int .u32 (n2 : Int)) (List.getElem?_toArray.trans rfl) (by kernel_rfl) (by kernel_rfl) (by kernel_rfl) (fun _ _ _ h => h) (.inl ⟨rfl, fun w' hS => by simp [go_sem, HD2.out, HU2.out]⟩) hG ?_
  refine act_normM (by simp only [Act.put, List.setIfInBounds_toArray, List.set_cons_zero, List.set_cons_succ]; rfl) ?_
  refine wpAnyH_take (i := 10) (v := .int .u8 (x2.toNat : Int)) (List.getElem?_toArray.trans rfl) (by kernel_rfl) (by kernel_rfl) (by kernel_rfl) (fun _ _ _ h => h) (.inl ⟨rfl, fun w' hS => by simp [go_sem, HW2.out]⟩) hG ?_
  refine act_normM (by simp only [Act.put, List.setIfInBounds_toArray, List.set_cons_zero, List.set_cons_succ]; rfl) ?_
  refine wpAnyH_take (i := 11) (v := .int .u32 (n : Int)) (List.getElem?_toArray.trans rfl) (by kernel_rfl) (by kernel_rfl) (by kernel_rfl) (fun _ _ _ h => h) (.inl ⟨rfl, fun w' hS => rfl⟩) hG ?_
  refine act_normM (by simp only [Act.put, List.setIfInBounds_toArray, List.set_cons_zero, List.set_cons_succ]; rfl) ?_
  refine wpAnyH_take (i := 12) (v := .int .u8 (x3.toNat : Int)) (List.getElem?_toArray.trans rfl) (by kernel_rfl) (by kernel_rfl) (by kernel_rfl) (fun _ _ _ h => h) (.inl ⟨rfl, fun w' hS => by simp [go_sem, HW3.out]⟩) hG ?_
  refine act_normM (by simp only [Act.put, List.setIfInBounds_toArray, List.set_cons_zero, List.set_cons_succ]; rfl) ?_
  refine wpAnyH_ready (rs := [13]) (by kernel_rfl) (by simp) (AllReadyH.cons (List.getElem?_toArray.trans rfl) (fun K' hK => ?_) AllReadyH.nil)
  refine wanted_goM rfl ?_
  go_simp
  have hb4 : Below w1.heap.size w1 (w3.alloc (.cells #[.int .u8 (x0.toNat : Int), .int .u8 (x1.toNat : Int), .int .u8 (x2.toNat : Int), .int .u8 (x3.toNat : Int)] 5)) := hG.alloc hG.size _
  have ho4 := hown.alloc (.cells #[.int .u8 (x0.toNat : Int), .int .u8 (x1.toNat : Int), .int .u8 (x2.toNat : Int), .int .u8 (x3.toNat : Int)] 5)
  have hs4 : Sl (w3.alloc (.cells #[.int .u8 (x0.toNat : Int), .int .u8 (x1.toNat : Int), .int .u8 (x2.toNat : Int), .int .u8 (x3.toNat : Int)] 5)) (w3.alloc (.cells #[.int .u8 (x0.toNat : Int), .int .u8 (x1.toNat : Int), .int .u8 (x2.toNat : Int), .int .u8 (x3.toNat : Int)] 5)).heap.size (some ⟨w3.heap.size, 0, none⟩) [x0, x1, x2, x3] := sl_of_whA (l := [x0, x1, x2, x3]) (Wh.new w3 5 (aRow [x0, x1, x2, x3]))
  obtain ⟨zb, hzb⟩ : ∃ b, b = w3.heap.size := ⟨_, rfl⟩
  rw [← hzb] at hs4 ⊢
  clear hzb
  generalize w3.alloc (.cells #[.int .u8 (x0.toNat : Int), .int .u8 (x1.toNat : Int), .int .u8 (x2.toNat : Int), .int .u8 (x3.toNat : Int)] 5) = w4 at *
  refine hK.out _ _ hb4 (fun _ => ?_)
  clear hK K'
  refine wpAnyH_ready (rs := [14]) (by kernel_rfl) (by simp) (AllReadyH.cons (List.getElem?_toArray.trans rfl) (fun K' hK => ?_) AllReadyH.nil)
  refine step_app_sv rfl (.tmp 12) (.tmp 24) _ rfl w1.heap.size 5 i0 _ 1 Tryd.underlying23 hi0 hz0 hz1 hz2 rfl (.slice A7 12 c7) 12 (nn.map cell8) rfl ho4 w4.heap.size (some ⟨zb, 0, none⟩) 4 4 ([x0, x1, x2, x3].map cell8) rfl hs4 rfl (cell8_one _) (by unfold maxLen; omega) (by omega) hb4.size ?_
  intro v5 w5 ho5 hg5
  have hb5 : Below w1.heap.size w1 w5 := hb4.grown hg5 hb4.size (fun q hq => (ho4.lt q hq).1)
  rw [← List.map_append] at ho5
  obtain ⟨A8, c8, rfl, h81, h82⟩ := own_form ho5
  have hs8 : Sl w5 w5.heap.size A8 (nn ++ be4 n) := by rw [HBE4.out]; exact Sv.of_own ho5
  have hblk := rblock_any key (nn ++ be4 n) Ab Aw A8 cb cw c8 w5.heap.size w5 (Nat.le_refl _) HKL.out ((HK1.out.below (hb5.mono hB1)).mono (Nat.le_trans hB1 hb5.size)) (by rw [List.length_append, HNL.out]; rfl) hs8
  refine hK.out _ _ hb5 (fun _ => ?_)
  clear hK K'
  refine wpAnyH_ready (rs := [15]) (by kernel_rfl) (by simp) (AllReadyH.cons (List.getElem?_toArray.trans rfl) (fun K' hK => ?_) AllReadyH.nil)
  refine wanted_goM rfl ?_
  go_simp
  refine hblk.mono ?_
  rintro e w6 ⟨A6, c6, rfl, hs6, hb6⟩
  have hG6 : Below w1.heap.size w1 w6 := hb5.trans (hb6.mono hb5.size)
  refine hK.out _ _ hG6 (fun _ => ?_)
  clear hK K'
  refine wpAnyH_take (i := 16) (v := .slice A6 16 c6) (List.getElem?_toArray.trans rfl) (by kernel_rfl) (by kernel_rfl) (by kernel_rfl) (fun _ _ _ h => h) (.inl ⟨rfl, fun w' hS => rfl⟩) hG6 ?_
  refine act_normM (by simp only [Act.put, List.setIfInBounds_toArray, List.set_cons_zero, List.set_cons_succ]; rfl) ?_
  refine wpAnyH_done (by kernel_rfl) ?_ _
  have HF := Lib.hid (HBE.out.trans (hG6.mono HBE.out.size))
  have HS6 := Lib.hid (hs6.mono (Nat.le_trans HBE.out.size hb5.size))
  clear hG hown hb4 ho4 hs4 ho5 hg5 hb5 hs8 hblk hs6 hb6 hG6 h71 h72 h81 h82
  go_wp2
  go_ret
  exact ⟨A6, c6, rfl, HS6.out, HF.out⟩
end

section
open Go.RowKit
set_option linter.unusedVariables false

theorem ky_sl2 {w : World} {g : Nat} {o : Nat} {l : List UInt8} (h : w.rangeAt g o (l.map cell8)) (hg : g < w.heap.size) : Sl w w.heap.size (some ⟨g, o, none⟩) l := fun _ => ⟨g, o, rfl, hg, fun i v hv => h i v hv⟩

/-- Sixteen bytes that are new. -/
def GaveM (w : World) (l : List UInt8) (e : Ending) (w' : World) : Prop :=
  ∃ A' c', e = .returned (.slice A' 16 c') ∧ Sy w' w.heap.size A' (l.map cell8) ∧ Below w.heap.size w w'

set_option maxRecDepth 100000 in
set_option maxHeartbeats 1000000 in
theorem rmask_any (k : KS) (b : List UInt8) (A : Option Addr) (n c a : Nat) (w : World) (hk : k.Ok) (hl : b.length = n) (ha : a + 20 ≤ n) (hnc : n ≤ c) (hn : n ≤ 100000000) (hs : Sl w w.heap.size A b) :
    Calls Tryd.prog 44 #[.agg (kyRow k), .slice A n c, .int .i64 (a : Int)] w (GaveM w (mkK k.hp b a)) := by
  obtain ⟨g, off, rfl, hglt, hr⟩ := hs.there (by intro e; rw [e] at hl; simp at hl; omega)
  have hsl := smp_len (b := b) (a := a) (by omega)
  have hsr : w.rangeAt g (off + (a + 4)) ((smpK b a).map cell8) := fun j v hv => by
    rw [smpK, List.map_take, List.map_drop, List.getElem?_take] at hv
    split at hv
    · rw [List.getElem?_drop] at hv
      have := hr (a + 4 + j) v hv
      rwa [show off + (a + 4 + j) = off + (a + 4) + j by omega] at this
    · cases hv
  have hmk : mkK k.hp b a = seL (ksL k.hp) (smpK b a) := rfl
  generalize smpK b a = S at *
  have HMK := Deep.mk hmk
  have HSL := Deep.mk hsl
  have HHL := Deep.mk hk.hp
  have hbe : Below w.heap.size w (w.alloc (.cells (kyRow k) 29)) := (Below.refl _ _).alloc (Nat.le_refl _) _
  have h2 := Wh.new w 29 (kyRow k)
  have hkr := ky_hpr h2 hk
  have HSR := Lib.hid (rangeAt_below hsr hbe hglt)
  have hcut : ∀ w' : World, (Instr.sliceAt 23 (.slice (some ⟨g, off, none⟩) n c) (some (.int .i64 ((a : Int) + 4))) (some (.int .i64 ((a : Int) + 20))) none).run Tryd.prog w' = .ok (.slice (some ⟨g, off + (a + 4), none⟩) 16 (c - (a + 4))) w' := fun w' => by
    rw [show (a : Int) + 4 = ((a + 4 : Nat) : Int) by omega, show (a : Int) + 20 = ((a + 20 : Nat) : Int) by omega, run_cut2 (some ⟨g, off, none⟩) n c (a + 4) (a + 20) (by omega) (by omega) w', cutA, if_neg (by omega), show a + 20 - (a + 4) = 16 by omega]
    rfl
  have HCUT := Deep.mk hcut
  have e1 : IntKind.i64.wrap ((a : Int) + 4) = (a : Int) + 4 := IntWalk.i64_in _ (by omega)
  have e2 : IntKind.i64.wrap ((a : Int) + 20) = (a : Int) + 20 := IntWalk.i64_in _ (by omega)
  have E1 := Lib.hid e1
  have E2 := Lib.hid e2
  clear e1 e2 hl hs hr hsr hmk hsl hcut ha hnc hn
  go_enter Tryd.func44, Tryd.ntmps44
  go_upto_region 1 with (fail)
  generalize w.alloc (.cells (kyRow k) 29) = W at *
  obtain ⟨q, hq⟩ : ∃ b, b = w.heap.size := ⟨_, rfl⟩
  rw [← hq] at h2 hkr ⊢
  have hqW := h2.lt
  have HKR := Lib.hid hkr
  have HBE := Lib.hid hbe
  have hgW : g < W.heap.size := by omega
  have hwW : w.heap.size ≤ W.heap.size := hbe.size
  clear hq h2 hkr hbe hk
  have hB0 : Below w.heap.size w W.drew := HBE.out.drew
  have rh : W.drew.rangeAt q 60 (k.hp.map cell8) := rangeAt_below HKR.out ((Below.refl W.heap.size _).drew) hqW
  have rs : W.drew.rangeAt g (off + (a + 4)) (S.map cell8) := rangeAt_below HSR.out ((Below.refl W.heap.size _).drew) hgW
  have lq0 : q < W.drew.heap.size := hqW
  have lg0 : g < W.drew.heap.size := hgW
  clear HKR HSR HBE
  refine wp_region_held_drew (S := fun w' => SinceK W.drew w') (by kernel_rfl) (SinceK.self _) (fun _ => ?_)
  generalize W.drew = w0 at *
  refine wpAnyH_take (i := 0) (v := .pointer (some ⟨q, 60, none⟩)) (List.getElem?_toArray.trans rfl) (by kernel_rfl) (by kernel_rfl) (by kernel_rfl) (fun _ _ _ h => h) (.inl ⟨rfl, fun w' hS => by simp [go_sem]⟩) (SinceK.self _) ?_
  refine act_normS (by simp only [Act.put, List.setIfInBounds_toArray, List.set_cons_zero, List.set_cons_succ]; rfl) ?_
  refine wpAnyH_take (i := 1) (v := .agg (aRow k.hp)) (List.getElem?_toArray.trans rfl) (by kernel_rfl) (by kernel_rfl) (by kernel_rfl) (fun _ _ _ h => h) (yieldsIf_load_mid (by rfl) 26 (.tmp 7) rfl q 60 rfl (k.hp.map cell8) _ (fun w' hS => SinceK.range hS rh lq0) Tryd.underlying26 rfl (by rw [List.length_map, HHL.out]; exact info_k16)) (SinceK.self _) ?_
  refine act_normS (by simp only [Act.put, List.setIfInBounds_toArray, List.set_cons_zero, List.set_cons_succ]; rfl) ?_
  refine wpAnyH_take (i := 4) (v := .slice (some ⟨g, off, none⟩) n c) (List.getElem?_toArray.trans rfl) (by kernel_rfl) (by kernel_rfl) (by kernel_rfl) (fun _ _ _ h => h) (.inl ⟨rfl, fun w' hS => rfl⟩) (SinceK.self _) ?_
  refine act_normS (by simp only [Act.put, List.setIfInBounds_toArray, List.set_cons_zero, List.set_cons_succ]; rfl) ?_
  refine wpAnyH_take (i := 5) (v := .int .i64 (a : Int)) (List.getElem?_toArray.trans rfl) (by kernel_rfl) (by kernel_rfl) (by kernel_rfl) (fun _ _ _ h => h) (.inl ⟨rfl, fun w' hS => rfl⟩) (SinceK.self _) ?_
  refine act_normS (by simp only [Act.put, List.setIfInBounds_toArray, List.set_cons_zero, List.set_cons_succ]; rfl) ?_
  refine wpAnyH_take (i := 6) (v := .int .i64 ((a : Int) + 4)) (List.getElem?_toArray.trans rfl) (by kernel_rfl) (by kernel_rfl) (by kernel_rfl) (fun _ _ _ h => h) (.inl ⟨rfl, fun w' hS => by simp [go_sem, E1.out]⟩) (SinceK.self _) ?_
  refine act_normS (by simp only [Act.put, List.setIfInBounds_toArray, List.set_cons_zero, List.set_cons_succ]; rfl) ?_
  refine wpAnyH_take (i := 7) (v := .int .i64 (a : Int)) (List.getElem?_toArray.trans rfl) (by kernel_rfl) (by kernel_rfl) (by kernel_rfl) (fun _ _ _ h => h) (.inl ⟨rfl, fun w' hS => rfl⟩) (SinceK.self _) ?_
  refine act_normS (by simp only [Act.put, List.setIfInBounds_toArray, List.set_cons_zero, List.set_cons_succ]; rfl) ?_
  refine wpAnyH_take (i := 8) (v := .int .i64 ((a : Int) + 20)) (List.getElem?_toArray.trans rfl) (by kernel_rfl) (by kernel_rfl) (by kernel_rfl) (fun _ _ _ h => h) (.inl ⟨rfl, fun w' hS => by simp [go_sem, E2.out]⟩) (SinceK.self _) ?_
  refine act_normS (by simp only [Act.put, List.setIfInBounds_toArray, List.set_cons_zero, List.set_cons_succ]; rfl) ?_
  refine wpAnyH_take (i := 9) (v := .slice (some ⟨g, off + (a + 4), none⟩) 16 (c - (a + 4))) (List.getElem?_toArray.trans rfl) (by kernel_rfl) (by kernel_rfl) (by kernel_rfl) (fun _ _ _ h => h) (yieldsIf_slice (by rfl) 23 (.tmp 11) (some (.tmp 13)) (some (.tmp 15)) none rfl _ (fun w' hS => HCUT.out w')) (SinceK.self _) ?_
  refine act_normS (by simp only [Act.put, List.setIfInBounds_toArray, List.set_cons_zero, List.set_cons_succ]; rfl) ?_
  refine wpAnyH_ready (rs := [2]) (by kernel_rfl) (by simp) (AllReadyH.cons (List.getElem?_toArray.trans rfl) (fun K' hK => ?_) AllReadyH.nil)
  refine wanted_goS rfl ?_
  go_simp
  refine (rrow_any k.hp w0 HHL.out).mono ?_
  rintro e w1 ⟨A1, c1, rfl, ha1, hc1, ho1, hb1⟩
  have hS1 : SinceK w0 w1 := hb1
  refine hK.out _ _ hS1 (fun _ => ?_)
  clear hK K'
  refine wpAnyH_ready (rs := [3]) (by kernel_rfl) (by simp) (AllReadyH.cons (List.getElem?_toArray.trans rfl) (fun K' hK => ?_) AllReadyH.nil)
  refine wanted_goS rfl ?_
  go_simp
  refine (rnew_any k.hp A1 c1 w1.heap.size w1 (Nat.le_refl _) HHL.out (Sv.of_own ho1)).mono ?_
  rintro e w2 ⟨Ab, Aw, cb, cw, rfl, hK2, hb2⟩
  have hS2 := SinceK.trans hS1 hb2
  refine hK.out _ _ hS2 (fun _ => ?_)
  clear hK K'
  refine wpAnyH_ready (rs := [10]) (by kernel_rfl) (by simp) (AllReadyH.cons (List.getElem?_toArray.trans rfl) (fun K' hK => ?_) AllReadyH.nil)
  refine wanted_goS rfl ?_
  go_simp
  refine (rblock_any k.hp S Ab Aw (some ⟨g, off + (a + 4), none⟩) cb cw (c - (a + 4)) w2.heap.size w2 (Nat.le_refl _) HHL.out hK2 HSL.out (ky_sl2 (SinceK.range hS2 rs lg0) (Nat.lt_of_lt_of_le lg0 hS2.size))).mono ?_
  rintro e w3 ⟨A3, c3, rfl, hy3, hb3⟩
  rw [← HMK.out] at hy3
  have hS3 := SinceK.trans hS2 hb3
  refine hK.out _ _ hS3 (fun _ => ?_)
  clear hK K'
  refine wpAnyH_take (i := 11) (v := .slice A3 16 c3) (List.getElem?_toArray.trans rfl) (by kernel_rfl) (by kernel_rfl) (by kernel_rfl) (fun _ _ _ h => h) (.inl ⟨rfl, fun w' hS => rfl⟩) hS3 ?_
  refine act_normS (by simp only [Act.put, List.setIfInBounds_toArray, List.set_cons_zero, List.set_cons_succ]; rfl) ?_
  refine wpAnyH_done (by kernel_rfl) ?_ _
  obtain ⟨M, hM⟩ : ∃ M, M = mkK k.hp b a := ⟨_, rfl⟩
  rw [← hM] at hy3
  have HM := Deep.mk hM
  have hyf := hy3.mono (Nat.le_trans hB0.size hS2.size)
  have HY := Lib.hid hyf
  have HBF := Lib.hid (SinceK.below hB0 hS3 hB0.size)
  clear hM hy3 hyf hS1 hS2 hS3 ho1 hb1 hb2 hb3 hK2 rh rs HMK HCUT
  go_wp2_with fail
  go_ret
  exact ⟨A3, c3, rfl, by rw [← HM.out]; exact HY.out, HBF.out⟩
end
end Go.Proofs.YtblclinfcdalaaaDoor
