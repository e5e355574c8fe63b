/-
  key.Unmask, of a packet whose protection comes off well. Printed by tools/gen_kbunm.py.
-/
import Derived.Test.YtbnnjkjmadnjkaaDoorSk28
import Derived.Test.YtbnnjkjmadnjkaaDoorSk31
import Derived.Test.YtbnnjkjmadnjkaaDoorHBare2
namespace Go.Proofs.YtbnnjkjmadnjkaaDoor
open Go.RowKit
set_option linter.unusedVariables false

def bare0 : Array Value := #[.int .u8 0, .slice none 0 0, .slice none 0 0, .slice none 0 0, .bool false, .int .u64 0, .int .i64 0, .slice none 0 0, .slice none 0 0]
set_option maxRecDepth 100000 in
theorem zero_bare (w : World) : (zeroValue 41).run Tryd.prog w = .ok (.agg bare0) w := by kernel_rfl
def bareC (R : Array Value) (A : Option Addr) (n c : Nat) (A' : Option Addr) (n' c' : Nat) : Array Value := R ++ #[.slice A n c, .slice A' n' c']
def zHL : List Value := [.int .u8 0, .slice none 0 0, .slice none 0 0, .slice none 0 0, .bool false, .int .u64 0, .int .i64 0]
set_option maxRecDepth 100000 in
theorem zero_headK (w : World) : (zeroValue 30).run Tryd.prog w = .ok (.agg zHL.toArray) w := by kernel_rfl
def hdL (sp : Nat) (A1 : Option Addr) (n1 c1 : Nat) (A2 : Option Addr) (n2 c2 : Nat) (A3 : Option Addr) (n3 c3 : Nat) (ph : Bool) (pn pnb : Int) : List Value := [.int .u8 (sp : Int), .slice A1 n1 c1, .slice A2 n2 c2, .slice A3 n3 c3, .bool ph, .int .u64 pn, .int .i64 pnb]
theorem info_headU (sp : Nat) (A1 : Option Addr) (n1 c1 : Nat) (A2 : Option Addr) (n2 c2 : Nat) (A3 : Option Addr) (n3 c3 : Nat) (ph : Bool) (pn pnb : Int) : (Tryd.prog.info? 30).map (·.size) = some (headC sp A1 n1 c1 A2 n2 c2 A3 n3 c3 ph pn pnb).size := by kernel_rfl
theorem head_one (sp : Nat) (A1 : Option Addr) (n1 c1 : Nat) (A2 : Option Addr) (n2 c2 : Nat) (A3 : Option Addr) (n3 c3 : Nat) (ph : Bool) (pn pnb : Int) : (headC sp A1 n1 c1 A2 n2 c2 A3 n3 c3 ph pn pnb).all (·.oneCell') = true := by kernel_rfl
set_option maxRecDepth 100000 in
theorem run_cutM (A : Option Addr) (len c k : Nat) (h : k ≤ c) (w : World) : (Instr.sliceAt 28 (.slice A len c) none (some (.int .i64 (k : Int))) (some (.int .i64 (k : Int)))).run Tryd.prog w = .ok (.slice A k k) w := by
  have hu : Tryd.prog.underlying 28 = some (.slice (Tryd.prog.elem 28)) := by kernel_rfl
  have h1 : (sizeOf (Tryd.prog.elem 28)).run Tryd.prog w = .ok 1 w := by kernel_rfl
  rw [run_sliceAt_slice w _ _ _ _ _ hu, run_slice_hm w _ A len c hu .i64 .i64 (k : Int) (k : Int) (by omega) (by omega) (by omega), h1]
  simp only [Result.andThen_ok, sliced, Int.toNat_natCast, Nat.zero_mul, Nat.sub_zero]
  congr 2
  split
  · rfl
  · cases A <;> simp [Addr.add]
theorem yields_built3U {P : Program} {ops : Array Oper} {S : World → Prop} {op : Oper} {a : Act} (hw : Region.wanted op (yielded ops a.tmps) = true) (t : TypeId) (i j l : Nat) (x y z : Operand) (ho : op.op = .build t #[(i, x), (j, y), (l, z)])
    (v u r : Value) (hx : a.eval x = v) (hy : a.eval y = u) (hz : a.eval z = r) (cells : Array Value) (hb : P.built t [(i, v), (j, u), (l, r)] = some cells) : YieldsIf P ops S op (.agg cells) a :=
  .inl ⟨hw, fun w hw' => by
    have e : ((#[(i, x), (j, y), (l, z)] : Array (Nat × Operand)).map fun (i, x) => (i, a.eval x)).toList = [(i, v), (j, u), (l, r)] := by simp [hx, hy, hz]
    unfold execOp
    simp only [ho, Sem.run_bind, run_build w t _ cells (by rw [e]; exact hb), Result.andThen_ok, Sem.run_pure]⟩
def bareL9 (sp : Nat) (A1 : Option Addr) (n1 c1 : Nat) (A2 : Option Addr) (n2 c2 : Nat) (A3 : Option Addr) (n3 c3 : Nat) (ph : Bool) (pn pnb : Int) (A : Option Addr) (n c : Nat) (A' : Option Addr) (n' c' : Nat) : List Value := [.int .u8 (sp : Int), .slice A1 n1 c1, .slice A2 n2 c2, .slice A3 n3 c3, .bool ph, .int .u64 pn, .int .i64 pnb, .slice A n c, .slice A' n' c']
set_option maxRecDepth 100000 in
theorem built_bare (sp : Nat) (A1 : Option Addr) (n1 c1 : Nat) (A2 : Option Addr) (n2 c2 : Nat) (A3 : Option Addr) (n3 c3 : Nat) (ph : Bool) (pn pnb : Int) (A : Option Addr) (n c : Nat) (A' : Option Addr) (n' c' : Nat) :
    Tryd.prog.built 41 [(0, .agg (headC sp A1 n1 c1 A2 n2 c2 A3 n3 c3 ph pn pnb)), (1, .slice A n c), (2, .slice A' n' c')] = some (bareL9 sp A1 n1 c1 A2 n2 c2 A3 n3 c3 ph pn pnb A n c A' n' c').toArray := by kernel_rfl
theorem info_bare9 : (Tryd.prog.info? 41).map (·.size) = some 9 := by kernel_rfl
theorem bare_one (sp : Nat) (A1 : Option Addr) (n1 c1 : Nat) (A2 : Option Addr) (n2 c2 : Nat) (A3 : Option Addr) (n3 c3 : Nat) (ph : Bool) (pn pnb : Int) (A : Option Addr) (n c : Nat) (A' : Option Addr) (n' c' : Nat) : (bareL9 sp A1 n1 c1 A2 n2 c2 A3 n3 c3 ph pn pnb A n c A' n' c').toArray.all (·.oneCell') = true := by kernel_rfl
theorem load_bare {w : World} {g : Nat} {cs : Array Value} (h : Wh w g 41 cs) (hs : cs.size = 9) : (loadVar 41 ⟨g, 0, none⟩).run Tryd.prog w = .ok (.agg cs) w :=
  run_loadVar_row w g _ _ cs (0, 0) _ h Tryd.underlying41 rfl (by rw [hs]; exact info_bare9)
theorem Sz.of_new {w : World} {lo lo' g : Nat} {A : Option Addr} {xs : List Value} (h : Sy w lo' A xs) (hg : g < lo') (hl : lo ≤ lo') : Sz w lo g A xs := by
  intro hn
  obtain ⟨b, off, rfl, h1, hlt, hc⟩ := h hn
  exact ⟨b, off, rfl, by omega, hlt, by omega, hc⟩
/-- What Unmask answers. -/
def UnmGave (w : World) (sp n X : Nat) (dst src tok hdr box : List UInt8) (ph : Bool) (e : Ending) (w' : World) : Prop :=
  ∃ B1 d1 B2 d2 B3 d3 B4 d4 B5 d5, e = .returned (.tuple #[.agg (bareC (headC sp B1 dst.length d1 B2 src.length d2 B3 tok.length d3 ph (X : Int) (n : Int)) B4 hdr.length d4 B5 box.length d5), .int .i64 0]) ∧ hdr.length ≤ d4 ∧ d4 ≤ maxLen ∧ box.length ≤ d5 ∧ d5 ≤ maxLen ∧
    Sy w' w.heap.size B1 (dst.map cell8) ∧ Sy w' w.heap.size B2 (src.map cell8) ∧ Sy w' w.heap.size B3 (tok.map cell8) ∧ Sy w' w.heap.size B4 (hdr.map cell8) ∧ Sy w' w.heap.size B5 (box.map cell8) ∧ Below w.heap.size w w'

set_option maxRecDepth 100000 in
set_option maxHeartbeats 3200000 in
theorem kunm_in (k : KS) (sp n a t next X : Nat) (dst src tok B : List UInt8) (ph : Bool) (A1 : Option Addr) (c1 : Nat) (A2 : Option Addr) (c2 : Nat) (A3 : Option Addr) (c3 : Nat) (A4 : Option Addr) (c4 : Nat) (w : World)
    (hk : k.Ok) (hn : 1 ≤ n) (hn4 : n ≤ 4) (ha : 1 ≤ a) (hat : a + 20 ≤ t) (hB : B.length = t) (htc : t ≤ c4) (hcm : c4 ≤ maxLen) (htl : t ≤ 1000000) (hd : dst.length ≤ 20) (hs : src.length ≤ 20) (htk : tok.length ≤ 3000)
    (hs1 : Sl w w.heap.size A1 dst) (hs2 : Sl w w.heap.size A2 src) (hs3 : Sl w w.heap.size A3 tok) (hs4 : Sl w w.heap.size A4 B)
    (L : List UInt8) (hL : L = bareL (mkK k.hp B a) B sp a) (f : UInt8) (hf : f = L.getD 0 0) (bt : Bool) (hbt : ((sp : Int) == 2) = bt)
    (hx : (bits .andNot .u8 (bits .xor .u8 (f.toNat : Int) ((B.getD 0 0).toNat : Int)) (if bt then 31 else 15) == 0) = true)
    (hsz : bits .and .u8 (f.toNat : Int) 3 = (n : Int) - 1) (hres : (bits .and .u8 (f.toNat : Int) (if bt then 24 else 12) != 0) = false) (hph : (bits .and .u8 (f.toNat : Int) 4 != 0) = ph)
    (hex : ∀ w' : World, Calls Tryd.prog 11 #[.int .u64 (next : Int), .int .u64 ((val 0 ((L.drop a).take n) : Nat) : Int), .int .i64 (n : Int)] w' fun e w2 => e = .returned (.int .u64 (X : Int)) ∧ Below w'.heap.size w' w2) :
    Calls Tryd.prog 8 #[.agg (kyRow k), .agg (partC sp A1 dst.length c1 A2 src.length c2 A3 tok.length c3 a A4 t c4), .int .u64 (next : Int)] w (UnmGave w sp n X dst src tok (L.take (a + n)) (B.drop (a + n)) ph) := by
  have HK := Deep.mk hk
  obtain ⟨gb, off, rfl, hglt, hrng⟩ := hs4.there (by intro e; rw [e] at hB; simp at hB; omega)
  obtain ⟨hbe, h2, h3, hz⟩ := made2K w (kyRow k) (partC sp A1 dst.length c1 A2 src.length c2 A3 tok.length c3 a (some ⟨gb, off, none⟩) t c4) 27 37
  have hrw0 : (partC sp A1 dst.length c1 A2 src.length c2 A3 tok.length c3 a (some ⟨gb, off, none⟩) t c4)[0]? = some (.int .u8 (sp : Int)) := rfl
  have hr4 : (partC sp A1 dst.length c1 A2 src.length c2 A3 tok.length c3 a (some ⟨gb, off, none⟩) t c4)[4]? = some (.int .i64 (a : Int)) := rfl
  have hr5 : (partC sp A1 dst.length c1 A2 src.length c2 A3 tok.length c3 a (some ⟨gb, off, none⟩) t c4)[5]? = some (.slice (some ⟨gb, off, none⟩) t c4) := rfl
  obtain ⟨P, hP⟩ : ∃ P, P = partC sp A1 dst.length c1 A2 src.length c2 A3 tok.length c3 a (some ⟨gb, off, none⟩) t c4 := ⟨_, rfl⟩
  have HP := Deep.mk hP
  rw [← hP] at hbe h2 h3 hz hrw0 hr4 hr5 ⊢
  have HS1 := Lib.hid hs1
  have HS2 := Lib.hid hs2
  have HS3 := Lib.hid hs3
  have HS4 := Lib.hid hs4
  clear hP hs1 hs2 hs3 hs4
  go_enter Tryd.func8, Tryd.ntmps8
  go_upto_region 1 with (refine wpList_allocZ rfl 41 rfl bare0 (zero_bare _) ?_)
  generalize (w.alloc (.cells (kyRow k) 27)).alloc (.cells P 37) = W2 at *
  obtain ⟨q, hq⟩ : ∃ q, q = w.heap.size := ⟨_, rfl⟩
  rw [← hq] at h2 h3 hz
  rw [← hq]
  obtain ⟨h, hh⟩ : ∃ h, h = q + 1 := ⟨_, rfl⟩
  rw [← hh] at h3 ⊢
  obtain ⟨r, hr0⟩ : ∃ r, r = h + 1 := ⟨_, rfl⟩
  have hr : r = W2.heap.size := by omega
  rw [← hr0]
  have hbW : Below W2.heap.size W2 (W2.alloc (.cells bare0 41)) := (Below.refl _ _).alloc (Nat.le_refl _) _
  have h4 := Wh.new W2 41 bare0
  have g2 := h2.below hbW h2.lt
  have g3 := h3.below hbW h3.lt
  have hlr : h < r := by rw [hr]; exact h3.lt
  have hbe2 := hbe.trans (hbW.mono hbe.size)
  rw [← hr] at h4
  generalize W2.alloc (.cells bare0 41) = W at *
  have hqh : q < h := by omega
  have hwq : w.heap.size ≤ q := by omega
  have e4 := (g3.cell 4).trans hr4
  have e5 := (g3.cell 5).trans hr5
  have HRG := Lib.hid (ky_hpr g2 hk)
  have HHL := Deep.mk hk.hp
  have hmo : ∀ (w' : World), Sl w' w'.heap.size (some ⟨gb, off, none⟩) B → Calls Tryd.prog 18 #[.agg (aRow k.hp), .slice (some ⟨gb, off, none⟩) t c4, .int .i64 (a : Int)] w' fun e w2 => e = .returned (.agg (aRow (mkK k.hp B a))) ∧ Below w'.heap.size w' w2 :=
    fun w' h1 => maskOf_any k.hp B _ _ c4 a w' hk.hp hB (by omega) htc (by omega) h1
  have hml := mk_len k.hp B a
  generalize mkK k.hp B a = M at *
  have HML := Deep.mk hml
  have HMO := Lib.hid hmo
  have H2 := Lib.hid g2
  have H3 := Lib.hid g3
  have H4 := Lib.hid h4
  have HBE := Lib.hid hbe2
  have HR0 := Lib.hid hrw0
  have HR4 := Lib.hid hr4
  have HR5 := Lib.hid hr5
  have HEX := Lib.hid hex
  have HX := Lib.hid hx
  have HSZ := Lib.hid hsz
  have HRES := Lib.hid hres
  have HPH := Lib.hid hph
  have HBT := Lib.hid hbt
  have HL := Deep.mk hL
  have HF := Deep.mk hf
  have HBL := Deep.mk hB
  clear hr0
  clear hmo hml g2 g3 h4 hbe2 hrw0 hr4 hr5 hex hx hsz hres hph hbt hL hf hB hbe hbW h2 h3 hz hq hh hr hk
  have HRB := Lib.hid hrng
  clear hrng
  have hd1 : decide ((a : Int) < 1) = false := decide_eq_false (by omega)
  have hd2 : decide ((t : Int) - (a : Int) < 20) = false := decide_eq_false (by omega)
  go_wp2_with (refine wpList_load_mid rfl 23 (.tmp 26) rfl q 60 rfl (k.hp.map cell8) _ HRG.out Tryd.underlying23 rfl (by rw [List.length_map, HHL.out]; exact info_k16) ?_)
  refine (HMO.out W (SinceK.sl HBE.out HS4.out)).mono ?_
  rintro e w1 ⟨rfl, hb1⟩
  have G3 := Lib.hid (H3.out.below hb1 H3.out.lt)
  have G4 := Lib.hid (H4.out.below hb1 H4.out.lt)
  have GB := Lib.hid (HBE.out.trans (hb1.mono HBE.out.size))
  clear hb1 HRG HMO H2 H3 H4 HBE e4 e5 hd1 hd2
  go_upto_region 4 with (first
    | (refine wpList_allocZ rfl 55 rfl (aRow (List.replicate 16 0)) (zero_mask _) ?_)
    | (refine wpList_store_row rfl 55 (.tmp 8) (.tmp 32) rfl w1.heap.size (aRow M) rfl rfl _ _ (heap_alloc_new w1 _) (info_maskR HML.out) (by rw [aRow_size, aRow_size, HML.out]; rfl) (aRow_one _) ?_; rw [World.setRow_alloc_new]))
  obtain ⟨mb, hmb⟩ : ∃ mb, mb = w1.heap.size := ⟨_, rfl⟩
  have hbm : Below w1.heap.size w1 (w1.alloc (.cells (aRow M) 55)) := (Below.refl _ _).alloc (Nat.le_refl _) _
  have h7 := Wh.new w1 55 (aRow M)
  have h37 := G3.out.below hbm G3.out.lt
  have h47 := G4.out.below hbm G4.out.lt
  have hb7 := GB.out.trans (hbm.mono GB.out.size)
  have hrm : r < mb := by rw [hmb]; exact G4.out.lt
  rw [← hmb] at h7 ⊢
  generalize w1.alloc (.cells (aRow M) 55) = w2 at *
  have e4 := (h37.cell 4).trans HR4.out
  have e5 := (h37.cell 5).trans HR5.out
  have H7 := Lib.hid h7
  have H37 := Lib.hid h37
  have H47 := Lib.hid h47
  have HB7 := Lib.hid hb7
  clear hmb hbm G3 G4 GB h7 h37 h47 hb7
  have hl4 : (B.take (a + 4)).length = a + 4 := by rw [List.length_take, HBL.out]; omega
  have hcl0 := clone_any (some ⟨gb, off, none⟩) (a + 4) c4 (B.take (a + 4)) w2 w2.heap.size hl4 (by have := (SinceK.sl HB7.out HS4.out).take (a + 4); rwa [← List.map_take] at this) (Nat.le_refl _) (by omega)
  have HCL := Lib.hid hcl0
  have HL4 := Deep.mk hl4
  clear hcl0 hl4
  go_upto_region 5 with (refine HCL.out.mono ?_; rintro e w3 ⟨AH, cH, rfl, ha3, hb3c, hown3, hb3⟩)
  obtain ⟨g, cap, eqH, hPq, hge, hcl, hcm2⟩ := Pq.of_own hown3 (by rw [HL4.out]; omega)
  simp only [Value.slice.injEq] at eqH
  obtain ⟨rfl, hx0, rfl⟩ := eqH
  clear hx0
  rw [HL4.out] at ha3 hcl hown3
  rw [show min (a + 4) B.length = a + 4 by rw [HBL.out]; omega]
  have h8 := H7.out.below hb3 H7.out.lt
  have h38 := H37.out.below hb3 H37.out.lt
  have h48 := H47.out.below hb3 H47.out.lt
  have hb8 := HB7.out.trans (hb3.mono HB7.out.size)
  have hmg : mb ≠ g := by have := H7.out.lt; omega
  have hrg : r ≠ g := by have := H47.out.lt; omega
  have hhg : h ≠ g := by have := H37.out.lt; omega
  have hwg : w.heap.size ≤ g := Nat.le_trans HB7.out.size hge
  have H8 := Lib.hid h8
  have H38 := Lib.hid h38
  have H48 := Lib.hid h48
  have HB8 := Lib.hid hb8
  have HQ := Lib.hid hPq
  clear h8 h38 h48 hb8 hPq hown3 hb3 hge H7 H37 H47 HB7 e4 e5 ha3 hb3c
  have k7 := H8.out.below (Below.refl _ _).drew H8.out.lt
  have q7 := HQ.out.since (Below.refl _ _).drew
  have k37 := H38.out.below (Below.refl _ _).drew H38.out.lt
  have k47 := H48.out.below (Below.refl _ _).drew H48.out.lt
  have b7 : Below w.heap.size w w3.drew := HB8.out.drew
  clear H8 HQ H38 H48 HB8
  refine wp_region_held_drew (S := fun w' => SinceX g w3.drew w') (by kernel_rfl) (SinceX.self _ _) (fun _ => ?_)
  generalize w3.drew = w0 at *
  have rm : w0.rangeAt mb 0 (M.map cell8) := by have := row_rangeS k7; rwa [aRow_list] at this
  have lm := k7.lt
  have lh7 := k37.lt
  have hcs := (k37.cell 0).trans HR0.out
  have hx0 : 0 < (B.take (a + 4)).length := by rw [HL4.out]; omega
  have hcb := q7.pb.cell hx0
  have hfb := q7.pb.frozen 0
  obtain ⟨x, hx⟩ : ∃ x, x = (B.take (a + 4)).getD 0 0 := ⟨_, rfl⟩
  have hxB : (B.take (a + 4)).getD 0 0 = B.getD 0 0 := by rw [List.getD_eq_getElem?_getD, List.getElem?_take, if_pos (by omega), ← List.getD_eq_getElem?_getD]
  rw [← hx] at hcb
  have hfi : ∀ w' : World, Calls Tryd.prog 19 #[.agg (aRow M), .int .u8 (x.toNat : Int), .int .u8 (sp : Int)] w' fun e w2 => e = .returned (.int .u8 ((firstK M x sp).toNat : Int)) ∧ Below w'.heap.size w' w2 := fun w' => mfirst_any M x sp w' HML.out
  have hLL : L = jnP M ((B.take (a + 4)).set 0 (firstK M x sp)) a 4 := by rw [HL.out, bareL, hx, hxB]
  have hLn : L.length = a + 4 := by rw [HL.out, bare_len _ _ _ _ (by rw [HBL.out]; omega)]
  generalize firstK M x sp = y at *
  have HFI := Lib.hid hfi
  have HLL := Deep.mk hLL
  have HLN := Deep.mk hLn
  have HCS := Lib.hid hcs
  have hlen0 : ¬ ((a : Int) + 4 ≤ 0) := by omega
  clear hfi hcs hx hx0 hxB hLL hLn HL
  refine wpAnyH_take (i := 0) (v := .slice (some ⟨g, 0, none⟩) (a + 4) cH) (List.getElem?_toArray.trans rfl) (by kernel_rfl) (by kernel_rfl) (by kernel_rfl) (fun _ _ _ h => h) (.inl ⟨rfl, fun w' hS => rfl⟩) (SinceX.self _ _) ?_
  refine act_normS (by simp only [Act.put, List.setIfInBounds_toArray, List.set_cons_zero, List.set_cons_succ]; rfl) ?_
  refine wpAnyH_take (i := 1) (v := .agg (aRow M)) (List.getElem?_toArray.trans rfl) (by kernel_rfl) (by kernel_rfl) (by kernel_rfl) (fun _ _ _ h => h) (yieldsIf_load_mid (by rfl) 55 (.tmp 8) rfl mb 0 rfl (M.map cell8) _ (fun w' hS => SinceX.range hS rm lm hmg) Tryd.underlying55 rfl (by rw [List.length_map, HML.out]; exact info_mask)) (SinceX.self _ _) ?_
  refine act_normS (by simp only [Act.put, List.setIfInBounds_toArray, List.set_cons_zero, List.set_cons_succ]; rfl) ?_
  refine wpAnyH_take (i := 2) (v := .slice (some ⟨g, 0, none⟩) (a + 4) cH) (List.getElem?_toArray.trans rfl) (by kernel_rfl) (by kernel_rfl) (by kernel_rfl) (fun _ _ _ h => h) (.inl ⟨rfl, fun w' hS => rfl⟩) (SinceX.self _ _) ?_
  refine act_normS (by simp only [Act.put, List.setIfInBounds_toArray, List.set_cons_zero, List.set_cons_succ]; rfl) ?_
  refine wpAnyH_take (i := 3) (v := .pointer (some ⟨g, 0, none⟩)) (List.getElem?_toArray.trans rfl) (by kernel_rfl) (by kernel_rfl) (by kernel_rfl) (fun _ _ _ h => h) (.inl ⟨rfl, fun w' hS => by simp [go_sem, hlen0]⟩) (SinceX.self _ _) ?_
  refine act_normS (by simp only [Act.put, List.setIfInBounds_toArray, List.set_cons_zero, List.set_cons_succ]; rfl) ?_
  refine wpAnyH_take (i := 5) (v := .pointer (some ⟨h, 0, none⟩)) (List.getElem?_toArray.trans rfl) (by kernel_rfl) (by kernel_rfl) (by kernel_rfl) (fun _ _ _ h => h) (.inl ⟨rfl, fun w' hS => by simp [go_sem]⟩) (SinceX.self _ _) ?_
  refine act_normS (by simp only [Act.put, List.setIfInBounds_toArray, List.set_cons_zero, List.set_cons_succ]; rfl) ?_
  refine wpAnyH_take (i := 6) (v := .int .u8 (sp : Int)) (List.getElem?_toArray.trans rfl) (by kernel_rfl) (by kernel_rfl) (by kernel_rfl) (fun _ _ _ h => h) (.inl ⟨rfl, fun w' hS => by have hc := (World.cell?_of_block (hS.block h lh7 (fun e => hhg (Option.some.inj e)))).trans HCS.out; simp [go_sem, hc]⟩) (SinceX.self _ _) ?_
  refine act_normS (by simp only [Act.put, List.setIfInBounds_toArray, List.set_cons_zero, List.set_cons_succ]; rfl) ?_
  refine wpAnyH_ready (rs := [4]) (by kernel_rfl) (by simp) (AllReadyH.cons (List.getElem?_toArray.trans rfl) (fun K' hK => ?_) AllReadyH.nil)
  refine wanted_goS rfl ?_
  go_simp
  refine hK.out _ _ (SinceX.self _ _) (fun _ => ?_)
  clear hK K'
  refine wpAnyH_ready (rs := [7]) (by kernel_rfl) (by simp) (AllReadyH.cons (List.getElem?_toArray.trans rfl) (fun K' hK => ?_) AllReadyH.nil)
  refine wanted_goS rfl ?_
  go_simp
  refine (HFI.out w0).mono ?_
  rintro e w8 ⟨rfl, hb8⟩
  have hS8 : SinceX g w0 w8 := SinceX.of hb8
  have q8 := q7.since hb8
  have b8 := b7.trans (hb8.mono b7.size)
  have k8 := k7.below hb8 k7.lt
  have k38 := k37.below hb8 k37.lt
  have k48 := k47.below hb8 k47.lt
  have hcb8 := q8.pb.cell (j := 0) (by rw [HL4.out]; omega)
  have hfb8 := q8.pb.frozen 0
  refine hK.out _ _ hS8 (fun _ => ?_)
  clear hK K'
  refine wpAnyH_take (i := 8) (v := .pointer (some ⟨g, 0, none⟩)) (List.getElem?_toArray.trans rfl) (by kernel_rfl) (by kernel_rfl) (by kernel_rfl) (fun _ _ _ h => h) (.inl ⟨rfl, fun w' hS => by simp [go_sem, hlen0]⟩) hS8 ?_
  refine act_normS (by simp only [Act.put, List.setIfInBounds_toArray, List.set_cons_zero, List.set_cons_succ]; rfl) ?_
  have q9 := q8.put 0 y
  have g9 := grown_set w8 g 0 (.int .u8 (y.toNat : Int))
  have hS9 : SinceX g w0 (w8.setCell ⟨g, 0, none⟩ (.int .u8 (y.toNat : Int))) := SinceX.put hS8 g9
  refine wpAnyH_ready (rs := [9]) (by kernel_rfl) (by simp) (AllReadyH.cons (List.getElem?_toArray.trans rfl) (fun K' hK => ?_) AllReadyH.nil)
  refine wanted_goS rfl ?_
  go_simp
  refine hK.out _ _ hS9 (fun _ => ?_)
  clear hK K'
  refine wpAnyH_done (by kernel_rfl) ?_ _
  have k9 := SinceX.wh hS9 k7 hmg
  have k39 := SinceX.wh hS9 k37 hhg
  have k49 := SinceX.wh hS9 k47 hrg
  have b9 := below_grownA b8 g9 hwg b8.size
  have hpl2 : ((B.take (a + 4)).set 0 y).length = a + 4 := by rw [List.length_set, HL4.out]
  have hcut : ∀ w' : World, (Instr.sliceAt 28 (.slice (some ⟨g, 0, none⟩) (a + 4) cH) (some (.int .i64 (a : Int))) none none).run Tryd.prog w' = .ok (.slice (some ⟨g, a, none⟩) 4 (cH - a)) w' := fun w' => by
    rw [run_cut3 (some ⟨g, 0, none⟩) (a + 4) cH a (by omega) hcl w', cutA, if_neg (by omega), show a + 4 - a = 4 by omega]
    simp [Addr.add_lit]
  generalize w8.setCell ⟨g, 0, none⟩ (.int .u8 (y.toNat : Int)) = w9 at *
  generalize (B.take (a + 4)).set 0 y = L9 at *
  have HK9 := Lib.hid k9
  have HK39 := Lib.hid k39
  have HK49 := Lib.hid k49
  have HQ9 := Lib.hid q9
  have HB9 := Lib.hid b9
  have HL9 := Deep.mk hpl2
  have HCUT := Deep.mk hcut
  clear hcut k7 q7 k37 k47 b7 rm lm lh7 hcb hfb HFI HCS hb8 hS8 q8 b8 k8 k38 k48 hcb8 hfb8 q9 g9 hS9 k9 k39 k49 b9 hpl2 HCL
  go_upto_region 6 with (fail)
  have k0 := HK9.out.below (Below.refl _ _).drew HK9.out.lt
  have k30 := HK39.out.below (Below.refl _ _).drew HK39.out.lt
  have k40 := HK49.out.below (Below.refl _ _).drew HK49.out.lt
  have q0 := HQ9.out.since (Below.refl _ _).drew
  have b0 : Below w.heap.size w w9.drew := HB9.out.drew
  clear HK9 HK39 HK49 HQ9 HB9
  refine wp_region_held_drew (S := fun w' => SinceX g w9.drew w') (by kernel_rfl) (SinceX.self _ _) (fun _ => ?_)
  generalize w9.drew = w0 at *
  have rm : w0.rangeAt mb 0 (M.map cell8) := by have := row_rangeS k0; rwa [aRow_list] at this
  have lm := k0.lt
  have lh7 := k30.lt
  have HCA := Lib.hid ((k30.cell 4).trans HR4.out)
  refine wpAnyH_take (i := 0) (v := .agg (aRow M)) (List.getElem?_toArray.trans rfl) (by kernel_rfl) (by kernel_rfl) (by kernel_rfl) (fun _ _ _ h => h) (yieldsIf_load_mid (by rfl) 55 (.tmp 8) rfl mb 0 rfl (M.map cell8) _ (fun w' hS => SinceX.range hS rm lm hmg) Tryd.underlying55 rfl (by rw [List.length_map, HML.out]; exact info_mask)) (SinceX.self _ _) ?_
  refine act_normS (by simp only [Act.put, List.setIfInBounds_toArray, List.set_cons_zero, List.set_cons_succ]; rfl) ?_
  refine wpAnyH_take (i := 1) (v := .slice (some ⟨g, 0, none⟩) (a + 4) cH) (List.getElem?_toArray.trans rfl) (by kernel_rfl) (by kernel_rfl) (by kernel_rfl) (fun _ _ _ h => h) (.inl ⟨rfl, fun w' hS => rfl⟩) (SinceX.self _ _) ?_
  refine act_normS (by simp only [Act.put, List.setIfInBounds_toArray, List.set_cons_zero, List.set_cons_succ]; rfl) ?_
  refine wpAnyH_take (i := 2) (v := .pointer (some ⟨h, 4, none⟩)) (List.getElem?_toArray.trans rfl) (by kernel_rfl) (by kernel_rfl) (by kernel_rfl) (fun _ _ _ h => h) (.inl ⟨rfl, fun w' hS => by simp [go_sem]⟩) (SinceX.self _ _) ?_
  refine act_normS (by simp only [Act.put, List.setIfInBounds_toArray, List.set_cons_zero, List.set_cons_succ]; rfl) ?_
  refine wpAnyH_take (i := 3) (v := .int .i64 (a : Int)) (List.getElem?_toArray.trans rfl) (by kernel_rfl) (by kernel_rfl) (by kernel_rfl) (fun _ _ _ h => h) (.inl ⟨rfl, fun w' hS => by have hc := (World.cell?_of_block (hS.block h lh7 (fun e => hhg (Option.some.inj e)))).trans HCA.out; simp [go_sem, hc]⟩) (SinceX.self _ _) ?_
  refine act_normS (by simp only [Act.put, List.setIfInBounds_toArray, List.set_cons_zero, List.set_cons_succ]; rfl) ?_
  refine wpAnyH_take (i := 4) (v := .slice (some ⟨g, a, none⟩) 4 (cH - a)) (List.getElem?_toArray.trans rfl) (by kernel_rfl) (by kernel_rfl) (by kernel_rfl) (fun _ _ _ h => h) (yieldsIf_slice (by rfl) 28 (.tmp 50) (some (.tmp 52)) none none rfl _ (fun w' hS => HCUT.out w')) (SinceX.self _ _) ?_
  refine act_normS (by simp only [Act.put, List.setIfInBounds_toArray, List.set_cons_zero, List.set_cons_succ]; rfl) ?_
  refine wpAnyH_ready (rs := [5]) (by kernel_rfl) (by simp) (AllReadyH.cons (List.getElem?_toArray.trans rfl) (fun K' hK => ?_) AllReadyH.nil)
  refine wanted_goS rfl ?_
  go_simp
  refine (mturn_any M L9 g a 4 (cH - a) cH w0 HML.out (by omega) (by rw [HL9.out]; omega) (by rw [HL9.out]; omega) q0).mono ?_
  rintro e w10 ⟨rfl, q10, g10⟩
  have hS10 : SinceX g w0 w10 := SinceX.put (SinceX.self _ _) g10
  refine hK.out _ _ hS10 (fun _ => ?_)
  clear hK K'
  refine wpAnyH_done (by kernel_rfl) ?_ _
  rw [← HLL.out] at q10
  have b10 := below_grownA b0 g10 hwg b0.size
  have k310 := SinceX.wh hS10 k30 hhg
  have k410 := SinceX.wh hS10 k40 hrg
  have HQ10 := Lib.hid q10
  have HB10 := Lib.hid b10
  have HK310 := Lib.hid k310
  have HK410 := Lib.hid k410
  clear k0 k30 k40 q0 b0 rm lm lh7 HCA q10 g10 hS10 b10 k310 k410 HLL HL9
  go_upto_region 7 with (fail)
  obtain ⟨V, hV⟩ : ∃ V, V = val 0 ((L.drop a).take n) := ⟨_, rfl⟩
  rw [← hV] at HEX
  have HV := Deep.mk hV
  clear hV
  go_cut [10, 11] (fun v ev wx => ∃ hb B1 d1 B2 d2 B3 d3, v = .pointer (some ⟨hb, 0, none⟩) ∧ ev = .int .i64 0 ∧ h < hb ∧ r < hb ∧ g < hb ∧ Hid (Wh wx hb 30 (headC sp B1 dst.length d1 B2 src.length d2 B3 tok.length d3 ph (V : Int) (n : Int))) ∧ Hid (Sz wx (r + 1) hb B1 (dst.map cell8)) ∧ Hid (Sz wx (r + 1) hb B2 (src.map cell8)) ∧ Hid (Sz wx (r + 1) hb B3 (tok.map cell8)) ∧ Hid (Wh wx h 37 P) ∧ Hid (Wh wx r 41 bare0) ∧ Hid (Pq wx g cH 5 L) ∧ Hid (Below w.heap.size w wx))
  case first =>
    go_wp2_with fail
    have b0 : Below w.heap.size w w10.drew := HB10.out.drew
    have k30 := HK310.out.below (Below.refl _ _).drew HK310.out.lt
    have k40 := HK410.out.below (Below.refl _ _).drew HK410.out.lt
    have q0 := HQ10.out.since (Below.refl _ _).drew
    refine wp_region_held_drew (S := fun w' => SinceK w10.drew w') (by kernel_rfl) (SinceK.self _) (fun _ => ?_)
    clear HB10 HK310 HK410 HQ10
    generalize w10.drew = w0 at *
    have rp : w0.rangeAt h 0 P.toList := row_rangeS k30
    have lp := k30.lt
    have lg := q0.pb.lt
    have lr := k40.lt
    have hPs : P.toList.length = 6 := by rw [HP.out]; rfl
    have hcf := q0.pb.cell (j := 0) (by rw [HLN.out]; omega)
    rw [← HF.out] at hcf
    have HCF := Lib.hid hcf
    have HCA := Lib.hid ((k30.cell 4).trans HR4.out)
    have hcut : ∀ w' : World, (Instr.sliceAt 28 (.slice (some ⟨g, 0, none⟩) (a + 4) cH) (some (.int .i64 (a : Int))) none none).run Tryd.prog w' = .ok (.slice (some ⟨g, a, none⟩) 4 (cH - a)) w' := fun w' => by
      rw [run_cut3 (some ⟨g, 0, none⟩) (a + 4) cH a (by omega) hcl w', cutA, if_neg (by omega), show a + 4 - a = 4 by omega]
      simp [Addr.add_lit]
    have HCUT := Deep.mk hcut
    have hbr : ∀ w' : World, SinceK w0 w' → Calls Tryd.prog 24 #[.agg P, .int .u8 (f.toNat : Int), .slice (some ⟨g, a, none⟩) 4 (cH - a)] w' (BareGaveY w' sp n V dst src tok ph) := fun w' hS => by
      have hb' : Below w.heap.size w w' := b0.trans (Below.mono hS b0.size)
      have hy : w'.cell? ⟨gb, off, none⟩ = some (.int .u8 ((B.getD 0 0).toNat : Int)) := rangeAt_below HRB.out hb' hglt 0 _ (by
        rw [List.getElem?_map, List.getD_eq_getElem?_getD, List.getElem?_eq_getElem (by rw [HBL.out]; omega)]; rfl)
      have hN : Sl w' w'.heap.size (some ⟨g, a, none⟩) ((L.drop a).take n) := by
        have := ((q0.since hS).pb.sl.drop a).take n
        rwa [← List.map_drop, ← List.map_take, Nat.zero_add] at this
      rw [HP.out, HV.out]
      exact bare_gen sp n 4 dst src tok ((L.drop a).take n) ph A1 c1 A2 c2 A3 c3 a t c4 gb off (f.toNat : Int) ((B.getD 0 0).toNat : Int) bt (some ⟨g, a, none⟩) (cH - a) w' HBT.out hy (by omega) (by unfold maxLen at hcm; omega) HX.out HSZ.out hn hn4 HRES.out HPH.out
        (by rw [List.length_take, List.length_drop, HLN.out]; omega) hn4 (by omega) (by omega) (SinceK.sl hb' HS1.out) (SinceK.sl hb' HS2.out) (SinceK.sl hb' HS3.out) hN hd hs htk
    have HBR := Lib.hid hbr
    have hlen0 : ¬ ((a : Int) + 4 ≤ 0) := by omega
    have hwr : r + 1 ≤ w0.heap.size := lr
    clear hbr hcut hcf
    refine wpAnyH_take (i := 0) (v := .agg P) (List.getElem?_toArray.trans rfl) (by kernel_rfl) (by kernel_rfl) (by kernel_rfl) (fun _ _ _ h => h) (yieldsIf_load_mid (by rfl) 37 (.tmp 4) rfl h 0 rfl P.toList _ (fun w' hS => SinceK.range hS rp lp) Tryd.underlying37 rfl (by rw [hPs]; exact info_part)) (SinceK.self _) ?_
    refine act_normS (by simp only [Act.put, List.setIfInBounds_toArray, List.set_cons_zero, List.set_cons_succ]; rfl) ?_
    refine wpAnyH_take (i := 1) (v := .slice (some ⟨g, 0, none⟩) (a + 4) cH) (List.getElem?_toArray.trans rfl) (by kernel_rfl) (by kernel_rfl) (by kernel_rfl) (fun _ _ _ h => h) (.inl ⟨rfl, fun w' hS => rfl⟩) (SinceK.self _) ?_
    refine act_normS (by simp only [Act.put, List.setIfInBounds_toArray, List.set_cons_zero, List.set_cons_succ]; rfl) ?_
    refine wpAnyH_take (i := 2) (v := .pointer (some ⟨g, 0, none⟩)) (List.getElem?_toArray.trans rfl) (by kernel_rfl) (by kernel_rfl) (by kernel_rfl) (fun _ _ _ h => h) (.inl ⟨rfl, fun w' hS => by simp [go_sem, hlen0]⟩) (SinceK.self _) ?_
    refine act_normS (by simp only [Act.put, List.setIfInBounds_toArray, List.set_cons_zero, List.set_cons_succ]; rfl) ?_
    refine wpAnyH_take (i := 3) (v := .int .u8 (f.toNat : Int)) (List.getElem?_toArray.trans rfl) (by kernel_rfl) (by kernel_rfl) (by kernel_rfl) (fun _ _ _ h => h) (.inl ⟨rfl, fun w' hS => by have hc := (Below.cell (p := ⟨g, 0, none⟩) hS lg).trans HCF.out; simp [go_sem, hc]⟩) (SinceK.self _) ?_
    refine act_normS (by simp only [Act.put, List.setIfInBounds_toArray, List.set_cons_zero, List.set_cons_succ]; rfl) ?_
    refine wpAnyH_take (i := 4) (v := .slice (some ⟨g, 0, none⟩) (a + 4) cH) (List.getElem?_toArray.trans rfl) (by kernel_rfl) (by kernel_rfl) (by kernel_rfl) (fun _ _ _ h => h) (.inl ⟨rfl, fun w' hS => rfl⟩) (SinceK.self _) ?_
    refine act_normS (by simp only [Act.put, List.setIfInBounds_toArray, List.set_cons_zero, List.set_cons_succ]; rfl) ?_
    refine wpAnyH_take (i := 5) (v := .pointer (some ⟨h, 4, none⟩)) (List.getElem?_toArray.trans rfl) (by kernel_rfl) (by kernel_rfl) (by kernel_rfl) (fun _ _ _ h => h) (.inl ⟨rfl, fun w' hS => by simp [go_sem]⟩) (SinceK.self _) ?_
    refine act_normS (by simp only [Act.put, List.setIfInBounds_toArray, List.set_cons_zero, List.set_cons_succ]; rfl) ?_
    refine wpAnyH_take (i := 6) (v := .int .i64 (a : Int)) (List.getElem?_toArray.trans rfl) (by kernel_rfl) (by kernel_rfl) (by kernel_rfl) (fun _ _ _ h => h) (.inl ⟨rfl, fun w' hS => by have hc := (Below.cell (p := ⟨h, 4, none⟩) hS lp).trans HCA.out; simp [go_sem, hc]⟩) (SinceK.self _) ?_
    refine act_normS (by simp only [Act.put, List.setIfInBounds_toArray, List.set_cons_zero, List.set_cons_succ]; rfl) ?_
    refine wpAnyH_take (i := 7) (v := .slice (some ⟨g, a, none⟩) 4 (cH - a)) (List.getElem?_toArray.trans rfl) (by kernel_rfl) (by kernel_rfl) (by kernel_rfl) (fun _ _ _ h => h) (yieldsIf_slice (by rfl) 28 (.tmp 60) (some (.tmp 62)) none none rfl _ (fun w' hS => HCUT.out w')) (SinceK.self _) ?_
    refine act_normS (by simp only [Act.put, List.setIfInBounds_toArray, List.set_cons_zero, List.set_cons_succ]; rfl) ?_
    refine wpAnyH_ready (rs := [8, 12]) (by kernel_rfl) (by simp) (AllReadyH.cons (List.getElem?_toArray.trans rfl) (fun K' hK => ?_) (AllReadyH.cons (List.getElem?_toArray.trans rfl) (fun K' hK => ?_) AllReadyH.nil))
    · refine wanted_goS rfl ?_
      go_simp
      refine (HBR.out w0 (SinceK.self _)).mono ?_
      rintro e u1 ⟨B1, d1, B2, d2, B3, d3, rfl, y1, y2, y3, hbu⟩
      have hS1 : SinceK w0 u1 := hbu
      refine hK.out _ _ hS1 (fun _ => ?_)
      clear hK K'
      refine wpAnyH_take (i := 9) (v := .tuple #[.agg (headC sp B1 dst.length d1 B2 src.length d2 B3 tok.length d3 ph (V : Int) (n : Int)), .int .i64 0]) (List.getElem?_toArray.trans rfl) (by kernel_rfl) (by kernel_rfl) (by kernel_rfl) (fun _ _ _ h => h) (.inl ⟨rfl, fun w' hS => rfl⟩) hS1 ?_
      refine act_normS (by simp only [Act.put, List.setIfInBounds_toArray, List.set_cons_zero, List.set_cons_succ]; rfl) ?_
      refine wpAnyH_take (i := 10) (v := .agg (headC sp B1 dst.length d1 B2 src.length d2 B3 tok.length d3 ph (V : Int) (n : Int))) (List.getElem?_toArray.trans rfl) (by kernel_rfl) (by kernel_rfl) (by kernel_rfl) (fun _ _ _ h => h) (.inl ⟨rfl, fun w' hS => by simp [go_sem]⟩) hS1 ?_
      refine act_normS (by simp only [Act.put, List.setIfInBounds_toArray, List.set_cons_zero, List.set_cons_succ]; rfl) ?_
      refine wpAnyH_take (i := 11) (v := .int .i64 0) (List.getElem?_toArray.trans rfl) (by kernel_rfl) (by kernel_rfl) (by kernel_rfl) (fun _ _ _ h => h) (.inl ⟨rfl, fun w' hS => by simp [go_sem]⟩) hS1 ?_
      refine act_normS (by simp only [Act.put, List.setIfInBounds_toArray, List.set_cons_zero, List.set_cons_succ]; rfl) ?_
      refine wpAnyH_ready (rs := [12]) (by kernel_rfl) (by simp) (AllReadyH.cons (List.getElem?_toArray.trans rfl) (fun K' hK => ?_) AllReadyH.nil)
      refine wanted_goS rfl ?_
      refine wp_allocZ 30 rfl zHL.toArray (zero_headK _) ?_
      obtain ⟨hb, hbb⟩ : ∃ hb, hb = u1.heap.size := ⟨_, rfl⟩
      have hz2 := Wh.new u1 30 zHL.toArray
      have hbn : Below u1.heap.size u1 (u1.alloc (.cells zHL.toArray 30)) := (Below.refl _ _).alloc (Nat.le_refl _) _
      have z1 := (Sz.of_sy (y1.mono hwr) (Nat.le_of_eq hbb.symm)).below hbn
      have z2 := (Sz.of_sy (y2.mono hwr) (Nat.le_of_eq hbb.symm)).below hbn
      have z3 := (Sz.of_sy (y3.mono hwr) (Nat.le_of_eq hbb.symm)).below hbn
      rw [← hbb] at hz2
      rw [← hbb]
      generalize u1.alloc (.cells zHL.toArray 30) = u2 at *
      have hS2 : SinceK w0 u2 := SinceK.trans hS1 hbn
      have hb0 : w0.heap.size ≤ hb := by rw [hbb]; exact Below.size hS1
      refine hK.out _ _ hS2 (fun _ => ?_)
      clear hK K'
      obtain ⟨s1, s2⟩ := Wh.allL (ds := hdL sp B1 dst.length d1 B2 src.length d2 B3 tok.length d3 ph (V : Int) (n : Int)) hz2 rfl
      have hSE : SinceK w0 (u2.setCells hb 0 (hdL sp B1 dst.length d1 B2 src.length d2 B3 tok.length d3 ph (V : Int) (n : Int))) := SinceK.put hS2 s2 hb0
      refine wpAnyH_ready (rs := [13]) (by kernel_rfl) (by simp) (AllReadyH.cons (List.getElem?_toArray.trans rfl) (fun K' hK => ?_) AllReadyH.nil)
      refine wanted_goS rfl ?_
      refine wp_store_mid 30 (.tmp 10) (.tmp 65) rfl hb 0 (headC sp B1 dst.length d1 B2 src.length d2 B3 tok.length d3 ph (V : Int) (n : Int)) (by first | rfl | (rw [hbb]; rfl)) rfl (Wh.thereL hz2 0 7 (by simp [zHL])) (info_headU _ _ _ _ _ _ _ _ _ _ _ _ _) (head_one _ _ _ _ _ _ _ _ _ _ _ _ _) ?_
      rw [show (headC sp B1 dst.length d1 B2 src.length d2 B3 tok.length d3 ph (V : Int) (n : Int)).toList = hdL sp B1 dst.length d1 B2 src.length d2 B3 tok.length d3 ph (V : Int) (n : Int) from rfl]
      refine hK.out _ _ hSE (fun _ => ?_)
      clear hK K'
      have s3 : Wh (u2.setCells hb 0 (hdL sp B1 dst.length d1 B2 src.length d2 B3 tok.length d3 ph (V : Int) (n : Int))) hb 30 (headC sp B1 dst.length d1 B2 src.length d2 B3 tok.length d3 ph (V : Int) (n : Int)) := s1
      generalize u2.setCells hb 0 (hdL sp B1 dst.length d1 B2 src.length d2 B3 tok.length d3 ph (V : Int) (n : Int)) = u3 at *
      generalize hHC : headC sp B1 dst.length d1 B2 src.length d2 B3 tok.length d3 ph (V : Int) (n : Int) = HR at *
      have HHC := Deep.mk hHC
      clear hHC s1
      refine wpAnyH_take (i := 14) (v := .int .i64 0) (List.getElem?_toArray.trans rfl) (by kernel_rfl) (by kernel_rfl) (by kernel_rfl) (fun _ _ _ h => h) (.inl ⟨rfl, fun w' hS => rfl⟩) hSE ?_
      refine act_normS (by simp only [Act.put, List.setIfInBounds_toArray, List.set_cons_zero, List.set_cons_succ]; rfl) ?_
      refine wpAnyH_done (by kernel_rfl) ?_ _
      go_wp2_with fail
      go_meet
      refine ⟨hb, B1, d1, B2, d2, B3, d3, by first | rfl | rw [hbb], rfl, by omega, by omega, by omega, Lib.hid (by rw [HHC.out]; exact s3), Lib.hid (z1.grown s2 (.inl rfl)), Lib.hid (z2.grown s2 (.inl rfl)), Lib.hid (z3.grown s2 (.inl rfl)), Lib.hid (SinceK.wh hSE k30), Lib.hid (SinceK.wh hSE k40), Lib.hid (q0.since hSE), Lib.hid (b0.trans (Below.mono hSE b0.size))⟩
    · refine wanted_goS rfl ?_
      refine wp_allocZ 30 rfl zHL.toArray (zero_headK _) ?_
      obtain ⟨hb, hbb⟩ : ∃ hb, hb = w0.heap.size := ⟨_, rfl⟩
      have hz1 := Wh.new w0 30 zHL.toArray
      have hSa : SinceK w0 (w0.alloc (.cells zHL.toArray 30)) := (Below.refl _ _).alloc (Nat.le_refl _) _
      rw [← hbb] at hz1
      rw [← hbb]
      generalize w0.alloc (.cells zHL.toArray 30) = u0 at *
      have hb0 : w0.heap.size ≤ hb := Nat.le_of_eq hbb.symm
      have hlu := hz1.lt
      refine hK.out _ _ hSa (fun _ => ?_)
      clear hK K'
      refine wpAnyH_ready (rs := [8]) (by kernel_rfl) (by simp) (AllReadyH.cons (List.getElem?_toArray.trans rfl) (fun K' hK => ?_) AllReadyH.nil)
      refine wanted_goS rfl ?_
      go_simp
      refine (HBR.out u0 hSa).mono ?_
      rintro e u1 ⟨B1, d1, B2, d2, B3, d3, rfl, y1, y2, y3, hbu⟩
      have hS1 : SinceK w0 u1 := SinceK.trans hSa hbu
      refine hK.out _ _ hS1 (fun _ => ?_)
      clear hK K'
      refine wpAnyH_take (i := 9) (v := .tuple #[.agg (headC sp B1 dst.length d1 B2 src.length d2 B3 tok.length d3 ph (V : Int) (n : Int)), .int .i64 0]) (List.getElem?_toArray.trans rfl) (by kernel_rfl) (by kernel_rfl) (by kernel_rfl) (fun _ _ _ h => h) (.inl ⟨rfl, fun w' hS => rfl⟩) hS1 ?_
      refine act_normS (by simp only [Act.put, List.setIfInBounds_toArray, List.set_cons_zero, List.set_cons_succ]; rfl) ?_
      refine wpAnyH_take (i := 10) (v := .agg (headC sp B1 dst.length d1 B2 src.length d2 B3 tok.length d3 ph (V : Int) (n : Int))) (List.getElem?_toArray.trans rfl) (by kernel_rfl) (by kernel_rfl) (by kernel_rfl) (fun _ _ _ h => h) (.inl ⟨rfl, fun w' hS => by simp [go_sem]⟩) hS1 ?_
      refine act_normS (by simp only [Act.put, List.setIfInBounds_toArray, List.set_cons_zero, List.set_cons_succ]; rfl) ?_
      refine wpAnyH_take (i := 11) (v := .int .i64 0) (List.getElem?_toArray.trans rfl) (by kernel_rfl) (by kernel_rfl) (by kernel_rfl) (fun _ _ _ h => h) (.inl ⟨rfl, fun w' hS => by simp [go_sem]⟩) hS1 ?_
      refine act_normS (by simp only [Act.put, List.setIfInBounds_toArray, List.set_cons_zero, List.set_cons_succ]; rfl) ?_
      obtain ⟨u2, hu2⟩ : ∃ u2, u2 = u1 := ⟨_, rfl⟩
      rw [← hu2] at hS1 y1 y2 y3 hbu ⊢
      have hz2 := hz1.below hbu hlu
      have hS2 : SinceK w0 u2 := hS1
      have hwu : r + 1 ≤ u0.heap.size := Nat.le_trans hwr (Below.size hSa)
      have z1 : Sz u2 (r + 1) hb B1 (dst.map cell8) := Sz.of_new y1 hlu hwu
      have z2 : Sz u2 (r + 1) hb B2 (src.map cell8) := Sz.of_new y2 hlu hwu
      have z3 : Sz u2 (r + 1) hb B3 (tok.map cell8) := Sz.of_new y3 hlu hwu
      obtain ⟨s1, s2⟩ := Wh.allL (ds := hdL sp B1 dst.length d1 B2 src.length d2 B3 tok.length d3 ph (V : Int) (n : Int)) hz2 rfl
      have hSE : SinceK w0 (u2.setCells hb 0 (hdL sp B1 dst.length d1 B2 src.length d2 B3 tok.length d3 ph (V : Int) (n : Int))) := SinceK.put hS2 s2 hb0
      refine wpAnyH_ready (rs := [13]) (by kernel_rfl) (by simp) (AllReadyH.cons (List.getElem?_toArray.trans rfl) (fun K' hK => ?_) AllReadyH.nil)
      refine wanted_goS rfl ?_
      refine wp_store_mid 30 (.tmp 10) (.tmp 65) rfl hb 0 (headC sp B1 dst.length d1 B2 src.length d2 B3 tok.length d3 ph (V : Int) (n : Int)) (by first | rfl | (rw [hbb]; rfl)) rfl (Wh.thereL hz2 0 7 (by simp [zHL])) (info_headU _ _ _ _ _ _ _ _ _ _ _ _ _) (head_one _ _ _ _ _ _ _ _ _ _ _ _ _) ?_
      rw [show (headC sp B1 dst.length d1 B2 src.length d2 B3 tok.length d3 ph (V : Int) (n : Int)).toList = hdL sp B1 dst.length d1 B2 src.length d2 B3 tok.length d3 ph (V : Int) (n : Int) from rfl]
      refine hK.out _ _ hSE (fun _ => ?_)
      clear hK K'
      have s3 : Wh (u2.setCells hb 0 (hdL sp B1 dst.length d1 B2 src.length d2 B3 tok.length d3 ph (V : Int) (n : Int))) hb 30 (headC sp B1 dst.length d1 B2 src.length d2 B3 tok.length d3 ph (V : Int) (n : Int)) := s1
      generalize u2.setCells hb 0 (hdL sp B1 dst.length d1 B2 src.length d2 B3 tok.length d3 ph (V : Int) (n : Int)) = u3 at *
      generalize hHC : headC sp B1 dst.length d1 B2 src.length d2 B3 tok.length d3 ph (V : Int) (n : Int) = HR at *
      have HHC := Deep.mk hHC
      clear hHC s1
      refine wpAnyH_take (i := 14) (v := .int .i64 0) (List.getElem?_toArray.trans rfl) (by kernel_rfl) (by kernel_rfl) (by kernel_rfl) (fun _ _ _ h => h) (.inl ⟨rfl, fun w' hS => rfl⟩) hSE ?_
      refine act_normS (by simp only [Act.put, List.setIfInBounds_toArray, List.set_cons_zero, List.set_cons_succ]; rfl) ?_
      refine wpAnyH_done (by kernel_rfl) ?_ _
      go_wp2_with fail
      go_meet
      refine ⟨hb, B1, d1, B2, d2, B3, d3, by first | rfl | rw [hbb], rfl, by omega, by omega, by omega, Lib.hid (by rw [HHC.out]; exact s3), Lib.hid (z1.grown s2 (.inl rfl)), Lib.hid (z2.grown s2 (.inl rfl)), Lib.hid (z3.grown s2 (.inl rfl)), Lib.hid (SinceK.wh hSE k30), Lib.hid (SinceK.wh hSE k40), Lib.hid (q0.since hSE), Lib.hid (b0.trans (Below.mono hSE b0.size))⟩
  case rest =>
    obtain ⟨hb, B1, d1, B2, d2, B3, d3, rfl, rfl, hhb, hrb, hgb, HHD, Z1, Z2, Z3, K3, K4, Q0, B0⟩ := hcut
    clear HB10 HK310 HK410 HQ10
    have c5 : wc.cell? ⟨hb, 5, none⟩ = some (.int .u64 (V : Int)) := HHD.out.cell 5
    have c6 : wc.cell? ⟨hb, 6, none⟩ = some (.int .i64 (n : Int)) := HHD.out.cell 6
    go_wp2_with fail
    refine (HEX.out wc).mono ?_
    rintro e w11 ⟨rfl, hb11⟩
    have hh11 := HHD.out.below hb11 HHD.out.lt
    have d5 : w11.cell? ⟨hb, 5, none⟩ = some (.int .u64 (V : Int)) := hh11.cell 5
    have d6 : w11.cell? ⟨hb, 6, none⟩ = some (.int .i64 (n : Int)) := hh11.cell 6
    have df := hh11.frozen 5
    have hh12 : Wh (w11.setCell ⟨hb, 5, none⟩ (.int .u64 (X : Int))) hb 30 (headC sp B1 dst.length d1 B2 src.length d2 B3 tok.length d3 ph (X : Int) (n : Int)) := by
      have := hh11.put 5 (.int .u64 (X : Int)); exact this
    have g12 := grown_set w11 hb 5 (.int .u64 (X : Int))
    have s1 := (Z1.out.below hb11).grown g12 (.inl rfl)
    have s2 := (Z2.out.below hb11).grown g12 (.inl rfl)
    have s3 := (Z3.out.below hb11).grown g12 (.inl rfl)
    have k3 := (K3.out.below hb11 K3.out.lt).grown g12 (by intro e; have := Option.some.inj e; omega)
    have k4 := (K4.out.below hb11 K4.out.lt).grown g12 (by intro e; have := Option.some.inj e; omega)
    obtain ⟨cur, qa, qb, qc⟩ := Q0.out.since hb11
    have q12 : Pq (w11.setCell ⟨hb, 5, none⟩ (.int .u64 (X : Int))) g cH 5 L := ⟨cur, qa.grown g12 (by intro e; have := Option.some.inj e; omega), qb, qc⟩
    have b12 := below_grownA (B0.out.trans (hb11.mono B0.out.size)) g12 (by omega) (Nat.le_trans B0.out.size hb11.size)
    have e4 : w11.cell? ⟨h, 4, none⟩ = some (.int .i64 (a : Int)) := ((K3.out.below hb11 K3.out.lt).cell 4).trans HR4.out
    have e4b : (w11.setCell ⟨hb, 5, none⟩ (.int .u64 (X : Int))).cell? ⟨h, 4, none⟩ = some (.int .i64 (a : Int)) := (k3.cell 4).trans HR4.out
    have d6b : (w11.setCell ⟨hb, 5, none⟩ (.int .u64 (X : Int))).cell? ⟨hb, 6, none⟩ = some (.int .i64 (n : Int)) := hh12.cell 6
    clear c5 c6 hb11 qa qb qc g12 K3 K4 Z1 Z2 Z3 Q0 B0 HHD hh11
    go_upto_region 12 with (fail)
    generalize w11.setCell ⟨hb, 5, none⟩ (.int .u64 (X : Int)) = w12 at *
    have hh0 := hh12.below (Below.refl _ _).drew hh12.lt
    have k30 := k3.below (Below.refl _ _).drew k3.lt
    have k40 := k4.below (Below.refl _ _).drew k4.lt
    have q0 := q12.since (Below.refl _ _).drew
    have z10 := s1.below (Below.refl _ _).drew
    have z20 := s2.below (Below.refl _ _).drew
    have z30 := s3.below (Below.refl _ _).drew
    have b0 : Below w.heap.size w w12.drew := b12.drew
    refine wp_region_held_drew (S := fun w' => SinceX r w12.drew w') (by kernel_rfl) (SinceX.self _ _) (fun _ => ?_)
    clear hh12 k3 k4 q12 s1 s2 s3 b12 e4b d6b
    generalize w12.drew = w0 at *
    have rh : w0.rangeAt hb 0 (hdL sp B1 dst.length d1 B2 src.length d2 B3 tok.length d3 ph (X : Int) (n : Int)) := row_rangeS hh0
    have lhb := hh0.lt
    have lh := k30.lt
    have HC5 := Lib.hid ((k30.cell 5).trans HR5.out)
    have hcm1 : ∀ w' : World, (Instr.sliceAt 28 (.slice (some ⟨g, 0, none⟩) (a + 4) cH) none (some (.int .i64 ((a + n : Nat) : Int))) (some (.int .i64 ((a + n : Nat) : Int)))).run Tryd.prog w' = .ok (.slice (some ⟨g, 0, none⟩) (a + n) (a + n)) w' := fun w' => run_cutM _ _ _ _ (by omega) w'
    have hcm3 : ∀ w' : World, (Instr.sliceAt 28 (.slice (some ⟨gb, off, none⟩) t c4) (some (.int .i64 ((a + n : Nat) : Int))) none none).run Tryd.prog w' = .ok (.slice (some ⟨gb, off + (a + n), none⟩) (t - (a + n)) (c4 - (a + n))) w' := fun w' => by
      rw [run_cut3 (some ⟨gb, off, none⟩) t c4 (a + n) (by omega) htc w', cutA, if_neg (by omega)]
      simp [Addr.add_lit]
    have hbx : (B.drop (a + n)).length = t - (a + n) := by rw [List.length_drop, HBL.out]
    have hsB : Sl w0 w0.heap.size (some ⟨gb, off + (a + n), none⟩) (B.drop (a + n)) := by
      have := (SinceK.sl b0 HS4.out).drop (a + n)
      rwa [← List.map_drop] at this
    have hwr2 : w.heap.size ≤ r := by omega
    have HCL := Lib.hid (clone_any (some ⟨gb, off + (a + n), none⟩) (t - (a + n)) (c4 - (a + n)) (B.drop (a + n)) w0 w0.heap.size hbx hsB (Nat.le_refl _) (by omega))
    have HCM1 := Deep.mk hcm1
    have HCM3 := Deep.mk hcm3
    clear hcm1 hcm3 hsB
    refine wpAnyH_take (i := 0) (v := .agg (headC sp B1 dst.length d1 B2 src.length d2 B3 tok.length d3 ph (X : Int) (n : Int))) (List.getElem?_toArray.trans rfl) (by kernel_rfl) (by kernel_rfl) (by kernel_rfl) (fun _ _ _ h => h) (yieldsIf_load_mid (by rfl) 30 (.tmp 10) rfl hb 0 rfl (hdL sp B1 dst.length d1 B2 src.length d2 B3 tok.length d3 ph (X : Int) (n : Int)) _ (fun w' hS => SinceX.range hS rh lhb (by omega)) Tryd.underlying30 rfl (info_headU sp B1 dst.length d1 B2 src.length d2 B3 tok.length d3 ph (X : Int) (n : Int))) (SinceX.self _ _) ?_
    refine act_normS (by simp only [Act.put, List.setIfInBounds_toArray, List.set_cons_zero, List.set_cons_succ]; rfl) ?_
    refine wpAnyH_take (i := 1) (v := .slice (some ⟨g, 0, none⟩) (a + 4) cH) (List.getElem?_toArray.trans rfl) (by kernel_rfl) (by kernel_rfl) (by kernel_rfl) (fun _ _ _ h => h) (.inl ⟨rfl, fun w' hS => rfl⟩) (SinceX.self _ _) ?_
    refine act_normS (by simp only [Act.put, List.setIfInBounds_toArray, List.set_cons_zero, List.set_cons_succ]; rfl) ?_
    refine wpAnyH_take (i := 2) (v := .int .i64 ((a + n : Nat) : Int)) (List.getElem?_toArray.trans rfl) (by kernel_rfl) (by kernel_rfl) (by kernel_rfl) (fun _ _ _ h => h) (.inl ⟨rfl, fun w' hS => rfl⟩) (SinceX.self _ _) ?_
    refine act_normS (by simp only [Act.put, List.setIfInBounds_toArray, List.set_cons_zero, List.set_cons_succ]; rfl) ?_
    refine wpAnyH_take (i := 3) (v := .int .i64 ((a + n : Nat) : Int)) (List.getElem?_toArray.trans rfl) (by kernel_rfl) (by kernel_rfl) (by kernel_rfl) (fun _ _ _ h => h) (.inl ⟨rfl, fun w' hS => rfl⟩) (SinceX.self _ _) ?_
    refine act_normS (by simp only [Act.put, List.setIfInBounds_toArray, List.set_cons_zero, List.set_cons_succ]; rfl) ?_
    refine wpAnyH_take (i := 4) (v := .slice (some ⟨g, 0, none⟩) (a + n) (a + n)) (List.getElem?_toArray.trans rfl) (by kernel_rfl) (by kernel_rfl) (by kernel_rfl) (fun _ _ _ h => h) (yieldsIf_slice (by rfl) 28 (.tmp 84) none (some (.tmp 85)) (some (.tmp 86)) rfl _ (fun w' hS => HCM1.out w')) (SinceX.self _ _) ?_
    refine act_normS (by simp only [Act.put, List.setIfInBounds_toArray, List.set_cons_zero, List.set_cons_succ]; rfl) ?_
    refine wpAnyH_take (i := 5) (v := .pointer (some ⟨h, 5, none⟩)) (List.getElem?_toArray.trans rfl) (by kernel_rfl) (by kernel_rfl) (by kernel_rfl) (fun _ _ _ h => h) (.inl ⟨rfl, fun w' hS => by simp [go_sem]⟩) (SinceX.self _ _) ?_
    refine act_normS (by simp only [Act.put, List.setIfInBounds_toArray, List.set_cons_zero, List.set_cons_succ]; rfl) ?_
    refine wpAnyH_take (i := 6) (v := .slice (some ⟨gb, off, none⟩) t c4) (List.getElem?_toArray.trans rfl) (by kernel_rfl) (by kernel_rfl) (by kernel_rfl) (fun _ _ _ h => h) (.inl ⟨rfl, fun w' hS => by have hc := (World.cell?_of_block (hS.block h lh (fun e => absurd (Option.some.inj e) (by omega)))).trans HC5.out; simp [go_sem, hc]⟩) (SinceX.self _ _) ?_
    refine act_normS (by simp only [Act.put, List.setIfInBounds_toArray, List.set_cons_zero, List.set_cons_succ]; rfl) ?_
    refine wpAnyH_take (i := 7) (v := .int .i64 ((a + n : Nat) : Int)) (List.getElem?_toArray.trans rfl) (by kernel_rfl) (by kernel_rfl) (by kernel_rfl) (fun _ _ _ h => h) (.inl ⟨rfl, fun w' hS => rfl⟩) (SinceX.self _ _) ?_
    refine act_normS (by simp only [Act.put, List.setIfInBounds_toArray, List.set_cons_zero, List.set_cons_succ]; rfl) ?_
    refine wpAnyH_take (i := 8) (v := .slice (some ⟨gb, off + (a + n), none⟩) (t - (a + n)) (c4 - (a + n))) (List.getElem?_toArray.trans rfl) (by kernel_rfl) (by kernel_rfl) (by kernel_rfl) (fun _ _ _ h => h) (yieldsIf_slice (by rfl) 28 (.tmp 89) (some (.tmp 90)) none none rfl _ (fun w' hS => HCM3.out w')) (SinceX.self _ _) ?_
    refine act_normS (by simp only [Act.put, List.setIfInBounds_toArray, List.set_cons_zero, List.set_cons_succ]; rfl) ?_
    refine wpAnyH_ready (rs := [9]) (by kernel_rfl) (by simp) (AllReadyH.cons (List.getElem?_toArray.trans rfl) (fun K' hK => ?_) AllReadyH.nil)
    refine wanted_goS rfl ?_
    go_simp
    refine HCL.out.mono ?_
    rintro e u1 ⟨A5, c5, rfl, ha5, hc5, ho5, hbu⟩
    rw [hbx] at ha5 ho5
    rw [hbx]
    have hS1 : SinceX r w0 u1 := SinceX.of hbu
    refine hK.out _ _ hS1 (fun _ => ?_)
    clear hK K'
    refine wpAnyH_take (i := 10) (v := .agg (bareL9 sp B1 dst.length d1 B2 src.length d2 B3 tok.length d3 ph (X : Int) (n : Int) (some ⟨g, 0, none⟩) (a + n) (a + n) A5 (t - (a + n)) c5).toArray) (List.getElem?_toArray.trans rfl) (by kernel_rfl) (by kernel_rfl) (by kernel_rfl) (fun _ _ _ h => h) (yields_built3U (by rfl) 41 0 1 2 (.tmp 83) (.tmp 87) (.tmp 92) rfl _ _ _ rfl rfl rfl _ (built_bare _ _ _ _ _ _ _ _ _ _ _ _ _ _ _ _ _ _ _)) hS1 ?_
    refine act_normS (by simp only [Act.put, List.setIfInBounds_toArray, List.set_cons_zero, List.set_cons_succ]; rfl) ?_
    have kr1 := k40.below hbu k40.lt
    obtain ⟨s1, s2⟩ := Wh.allL (ds := bareL9 sp B1 dst.length d1 B2 src.length d2 B3 tok.length d3 ph (X : Int) (n : Int) (some ⟨g, 0, none⟩) (a + n) (a + n) A5 (t - (a + n)) c5) kr1 rfl
    have hSE : SinceX r w0 (u1.setCells r 0 (bareL9 sp B1 dst.length d1 B2 src.length d2 B3 tok.length d3 ph (X : Int) (n : Int) (some ⟨g, 0, none⟩) (a + n) (a + n) A5 (t - (a + n)) c5)) := SinceX.put hS1 s2
    refine wpAnyH_ready (rs := [11]) (by kernel_rfl) (by simp) (AllReadyH.cons (List.getElem?_toArray.trans rfl) (fun K' hK => ?_) AllReadyH.nil)
    refine wanted_goS rfl ?_
    refine wp_store_mid 41 (.tmp 6) (.tmp 93) rfl r 0 (bareL9 sp B1 dst.length d1 B2 src.length d2 B3 tok.length d3 ph (X : Int) (n : Int) (some ⟨g, 0, none⟩) (a + n) (a + n) A5 (t - (a + n)) c5).toArray rfl rfl (Wh.thereL kr1 0 9 (by simp)) info_bare9 (bare_one _ _ _ _ _ _ _ _ _ _ _ _ _ _ _ _ _ _ _) ?_
    rw [show (bareL9 sp B1 dst.length d1 B2 src.length d2 B3 tok.length d3 ph (X : Int) (n : Int) (some ⟨g, 0, none⟩) (a + n) (a + n) A5 (t - (a + n)) c5).toArray.toList = bareL9 sp B1 dst.length d1 B2 src.length d2 B3 tok.length d3 ph (X : Int) (n : Int) (some ⟨g, 0, none⟩) (a + n) (a + n) A5 (t - (a + n)) c5 from rfl]
    refine hK.out _ _ hSE (fun _ => ?_)
    clear hK K'
    have y1 := (z10.below hbu).grown s2 (.inr (by omega))
    refine wpAnyH_take (i := 12) (v := .int .i64 0) (List.getElem?_toArray.trans rfl) (by kernel_rfl) (by kernel_rfl) (by kernel_rfl) (fun _ _ _ h => h) (.inl ⟨rfl, fun w' hS => rfl⟩) hSE ?_
    refine act_normS (by simp only [Act.put, List.setIfInBounds_toArray, List.set_cons_zero, List.set_cons_succ]; rfl) ?_
    refine wpAnyH_done (by kernel_rfl) ?_ _
    have y2 := (z20.below hbu).grown s2 (.inr (by omega))
    have y3 := (z30.below hbu).grown s2 (.inr (by omega))
    have y5 := (Sy.of_own ho5 (Nat.le_refl _)).grown s2 (fun g' e => by have := Option.some.inj e; omega)
    obtain ⟨cur, qa, qb, qc⟩ := q0.since hbu
    have q2 : Pq (u1.setCells r 0 (bareL9 sp B1 dst.length d1 B2 src.length d2 B3 tok.length d3 ph (X : Int) (n : Int) (some ⟨g, 0, none⟩) (a + n) (a + n) A5 (t - (a + n)) c5)) g cH 5 L := ⟨cur, qa.grown s2 (by intro e; have := Option.some.inj e; omega), qb, qc⟩
    have yH : Sy (u1.setCells r 0 (bareL9 sp B1 dst.length d1 B2 src.length d2 B3 tok.length d3 ph (X : Int) (n : Int) (some ⟨g, 0, none⟩) (a + n) (a + n) A5 (t - (a + n)) c5)) w.heap.size (some ⟨g, 0, none⟩) ((L.take (a + n)).map cell8) := by
      have := q2.pb.sl.take (a + n)
      rw [← List.map_take] at this
      intro hn'
      obtain ⟨b', o', e', h1', h2'⟩ := this hn'
      obtain ⟨rfl, rfl⟩ : g = b' ∧ 0 = o' := by simpa using e'
      exact ⟨g, 0, rfl, hwg, h1', h2'⟩
    have hhl : (L.take (a + n)).length = a + n := by rw [List.length_take, HLN.out]; omega
    have bE := below_grownA (b0.trans (hbu.mono b0.size)) s2 hwr2 (Nat.le_trans b0.size hbu.size)
    generalize u1.setCells r 0 (bareL9 sp B1 dst.length d1 B2 src.length d2 B3 tok.length d3 ph (X : Int) (n : Int) (some ⟨g, 0, none⟩) (a + n) (a + n) A5 (t - (a + n)) c5) = w13 at *
    clear hS1 hSE qa qb qc z10 z20 z30 hbu k40 kr1 ho5 s2 q0
    go_wp2_with fail
    refine bodyPost_ret (results_ct Tryd.results8 _ _ ⟨r, 0, none⟩ _ rfl (load_bare s1 rfl)) rfl ?_
    refine ⟨B1, d1, B2, d2, B3, d3, some ⟨g, 0, none⟩, a + n, A5, c5, ?_, by rw [hhl]; exact Nat.le_refl _, by omega, by rw [hbx]; exact ha5, hc5, y1.sy.mono (by omega), y2.sy.mono (by omega), y3.sy.mono (by omega), yH, y5.mono b0.size, bE⟩
    rw [hhl, hbx]
    rfl
end Go.Proofs.YtbnnjkjmadnjkaaDoor
