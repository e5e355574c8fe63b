/-
  sha.Sum: the sum of texts, one behind the other.
  '==' of two arrays of integers. No program is named here.
  Words for what calls sha.Sum: lists of texts, regions that draw.
-/
import Derived.Great.BuildSlice
import Derived.Test.YtblclinfcdalaaaDoorSb8
import Derived.Test.YtblclinfcdalaaaDoorSb3
import Derived.DeepKeys
import Derived.Laws.StructEq
import Derived.RowKit3
import Derived.Lib.SlBytesConst
import Derived.Test.YtblclinfcdalaaaDoorSb1
import Derived.Deep.MidRow
import Derived.Deep.RegionHeld3
namespace Go.Proofs.YtblclinfcdalaaaDoor
section
open Go.RowKit
set_option linter.unusedVariables false

theorem tRow_size (ks : List W32) (L blk : List UInt8) (h : blk.length = 64) : (tRow ks L blk).size = 73 := by simp [tRow, S8.len, h]
theorem tRow_one (ks : List W32) (L blk : List UInt8) : (tRow ks L blk).all (·.oneCell') = true := by
  rw [Array.all_eq_true_iff_forall_mem]
  intro v hv
  simp only [tRow, List.mem_toArray, List.mem_append, List.mem_map, List.mem_singleton] at hv
  rcases hv with ⟨x, _, rfl⟩ | ⟨x, _, rfl⟩ | rfl <;> rfl
theorem info_text : (Tryd.prog.info? 136).map (·.size) = some 73 := by kernel_rfl
theorem TX.below {w w' : World} {g B : Nat} {ks : List W32} {L : List UInt8} (h : TX w g ks L) (hb : Below B w w') (hg : g < B) : TX w' g ks L := by
  obtain ⟨blk, h1, h2⟩ := h
  exact ⟨blk, h1, h2.below hb hg⟩
theorem endB_le (n : Nat) : (endB n).length ≤ 72 := by
  simp [endB, be_length]; omega

set_option maxRecDepth 100000 in
theorem zero_text (w : World) : (zeroValue 136).run Tryd.prog w = .ok (.agg #[.int .u32 0, .int .u32 0, .int .u32 0, .int .u32 0, .int .u32 0, .int .u32 0, .int .u32 0, .int .u32 0, .int .u8 0, .int .u8 0, .int .u8 0, .int .u8 0, .int .u8 0, .int .u8 0, .int .u8 0, .int .u8 0, .int .u8 0, .int .u8 0, .int .u8 0, .int .u8 0, .int .u8 0, .int .u8 0, .int .u8 0, .int .u8 0, .int .u8 0, .int .u8 0, .int .u8 0, .int .u8 0, .int .u8 0, .int .u8 0, .int .u8 0, .int .u8 0, .int .u8 0, .int .u8 0, .int .u8 0, .int .u8 0, .int .u8 0, .int .u8 0, .int .u8 0, .int .u8 0, .int .u8 0, .int .u8 0, .int .u8 0, .int .u8 0, .int .u8 0, .int .u8 0, .int .u8 0, .int .u8 0, .int .u8 0, .int .u8 0, .int .u8 0, .int .u8 0, .int .u8 0, .int .u8 0, .int .u8 0, .int .u8 0, .int .u8 0, .int .u8 0, .int .u8 0, .int .u8 0, .int .u8 0, .int .u8 0, .int .u8 0, .int .u8 0, .int .u8 0, .int .u8 0, .int .u8 0, .int .u8 0, .int .u8 0, .int .u8 0, .int .u8 0, .int .u8 0, .int .u64 0]) w := by kernel_rfl
set_option maxRecDepth 100000 in
theorem zero_made (ks : List W32) : ∃ Z : Array Value, (∀ w, (zeroValue 136).run Tryd.prog w = .ok (.agg Z) w) ∧ Z.size = 73 ∧ ((((((((Z.setIfInBounds 0 (.int .u32 1779033703)).setIfInBounds 1 (.int .u32 3144134277)).setIfInBounds 2 (.int .u32 1013904242)).setIfInBounds 3 (.int .u32 2773480762)).setIfInBounds 4 (.int .u32 1359893119)).setIfInBounds 5 (.int .u32 2600822924)).setIfInBounds 6 (.int .u32 528734635)).setIfInBounds 7 (.int .u32 1541459225)) = tRow ks [] (List.replicate 64 0) :=
  ⟨_, zero_text, rfl, by kernel_rfl⟩

theorem built_text (ks : List W32) : Tryd.prog.built 136 [(0, .agg #[.int .u32 1779033703, .int .u32 3144134277, .int .u32 1013904242, .int .u32 2773480762, .int .u32 1359893119, .int .u32 2600822924, .int .u32 528734635, .int .u32 1541459225])] = some (tRow ks [] (List.replicate 64 0)) := by kernel_rfl

set_option maxRecDepth 100000 in
set_option maxHeartbeats 400000 in
theorem sum_any (ks : List W32) (ps : List (List UInt8)) (vs : List Value) (A : Option Addr) (len c : Nat) (w : World) (hks : ks.length = 64) (hK : KT w ks) (hKb : 0 < w.heap.size)
    (hA : Sv w w.heap.size A vs) (hvl : vs.length = len) (hlc : len ≤ c) (hcm : c ≤ maxLen)
    (hP : vs.length = ps.length ∧ ∀ (i : Nat) (v : Value) (l : List UInt8), vs[i]? = some v → ps[i]? = some l → ∃ A c, v = .slice A l.length c ∧ l.length ≤ c ∧ c ≤ maxLen ∧ Sl w w.heap.size A l) (hmax : ps.flatten.length ≤ 16000000) :
    Calls Tryd.prog 64 #[.slice A len c] w fun e w' => e = .returned (.agg (bRow (sumK ks ps.flatten))) ∧ Below w.heap.size w w' := by
  have HKS := Lib.hid hks
  have HK := Lib.hid hK
  have HA := Lib.hid hA
  have HV := Lib.hid hvl
  have HP := Lib.hid hP
  have HX := Lib.hid hmax
  clear hks hK hA hvl hP hmax
  go_enter Tryd.func64, Tryd.ntmps64
  obtain ⟨R0, hR0⟩ : ∃ R0, R0 = tRow ks [] (List.replicate 64 0) := ⟨_, rfl⟩
  have h73 : R0.size = 73 := by rw [hR0]; exact tRow_size _ _ _ (by simp)
  have hone : R0.all (·.oneCell') = true := by rw [hR0]; exact tRow_one _ _ _
  obtain ⟨Z, hz1, hz2, hz3⟩ := zero_made ks
  rw [← hR0] at hz3
  have hbt := built_text ks
  rw [← hR0] at hbt
  have HBT := Deep.mk hbt
  clear hbt
  have HZ1 := Deep.mk hz1
  have HZ2 := Deep.mk hz2
  have HZ3 := Deep.mk hz3
  clear hz1 hz2 hz3
  have H73 := Deep.mk h73
  have HONE := Deep.mk hone
  have HR0 := Deep.mk hR0
  have HI0 : Deep ((Tryd.prog.info? 136).map (·.size) = some R0.size) := ⟨by rw [h73]; exact info_text⟩
  clear h73 hone hR0
  go_upto_region 1 with fail
  rw [zeros32]
  have hbw : Below w.heap.size w (w.alloc (.cells (bRow (List.replicate 32 0)) 22)) := (Below.refl _ _).alloc (Nat.le_refl _) _
  have hwr : Wh (w.alloc (.cells (bRow (List.replicate 32 0)) 22)) w.heap.size 22 (bRow (List.replicate 32 0)) := Wh.new _ _ _
  generalize w.alloc (.cells (bRow (List.replicate 32 0)) 22) = w0 at *
  obtain ⟨r, hr⟩ : ∃ r, r = w.heap.size := ⟨_, rfl⟩
  rw [← hr] at hwr
  rw [← hr]
  have HRR := Lib.hid hr
  have HWR := Lib.hid hwr
  have HBW := Lib.hid hbw
  have hr0 : r < w0.heap.size := hwr.lt
  clear hr hwr hbw
  go_upto_region 2 with (first
    | (go_at_call 96; refine (first_lit _).mono ?_; rintro e w1 ⟨rfl, hb1⟩; have HB1 := Lib.hid hb1; clear hb1)
    | (refine wpList_built1Z rfl 136 (.tmp 4) rfl (.agg #[.int .u32 1779033703, .int .u32 3144134277, .int .u32 1013904242, .int .u32 2773480762, .int .u32 1359893119, .int .u32 2600822924, .int .u32 528734635, .int .u32 1541459225]) rfl R0 HBT.out ?_)
    | (refine wpList_allocZ rfl 136 rfl Z (HZ1.out _) ?_)
    | (refine wpList_store_row rfl 136 (.tmp 3) (.tmp 5) rfl w1.heap.size R0 rfl rfl _ _ (heap_alloc_new w1 _) HI0.out (by rw [HZ2.out, H73.out]) HONE.out ?_; rw [World.setRow_alloc_new]))
  obtain ⟨g, hg⟩ : ∃ g, g = w1.heap.size := ⟨_, rfl⟩
  have hwg : w.heap.size ≤ g := by rw [hg]; exact Nat.le_trans HBW.out.size HB1.out.size
  have hrg : r < g := by rw [hg]; exact Nat.lt_of_lt_of_le hr0 HB1.out.size
  have hB2 : Below w.heap.size w (w1.alloc (.cells R0 136)) := (HBW.out.trans (HB1.out.mono HBW.out.size)).alloc (Nat.le_trans HBW.out.size HB1.out.size) _
  have hW2 : Wh (w1.alloc (.cells R0 136)) g 136 R0 := by rw [hg]; exact Wh.new _ _ _
  have hWr : Wh (w1.alloc (.cells R0 136)) r 22 (bRow (List.replicate 32 0)) := (HWR.out.below HB1.out hr0).alloc _
  rw [← hg]
  generalize w1.alloc (.cells R0 136) = w2 at *
  have hgw2 : g < w2.heap.size := hW2.lt
  have HGG := Lib.hid hg
  have HT2 : Hid (TX w2 g ks []) := ⟨_, TB.zero, by rw [← HR0.out]; exact hW2⟩
  have HK2 := Lib.hid (HK.out.below hKb hB2)
  have hKb2 : 0 < w2.heap.size := Nat.lt_of_lt_of_le hKb hB2.size
  have HSA : Hid (Sx w2 g A vs) := Sx.of (HA.out.below hB2) hwg hgw2
  have HPA : Hid (Parts w2 g vs ps) := ⟨HP.out.1, fun i v l hv hl => by
    obtain ⟨A, c, h1, h2, h3, h4⟩ := HP.out.2 i v l hv hl
    exact ⟨A, c, h1, h2, h3, Sx.of (Sv.below h4 hB2) hwg hgw2⟩⟩
  have HB2 := Lib.hid hB2
  have HWr := Lib.hid hWr
  have hKg : 0 ≠ g := by omega
  clear hg hB2 hW2 hWr HZ1 HZ2 HZ3 H73 HONE HI0 HR0 HWR HBW HB1 hr0
  go_upto_region 3 with (go_at_call 97; refine (add_any g ks [] ps vs A len c w2 HKS.out HK2.out hKb2 hKg HT2.out HSA.out HV.out hlc hcm HPA.out (by have := HX.out; rw [List.length_nil]; omega)).mono ?_; rintro e w3 ⟨rfl, hg3, ht3⟩; have HG3 := Lib.hid hg3; have HT3 := Lib.hid ht3; clear hg3 ht3)
  obtain ⟨L, hL⟩ : ∃ L, L = ps.flatten := ⟨_, rfl⟩
  obtain ⟨n, hn⟩ : ∃ n, n = L.length := ⟨_, rfl⟩
  have hn16 : n ≤ 16000000 := by rw [hn, hL]; exact HX.out
  have hc72 : w3.cell? ⟨g, 72, none⟩ = some (.int .u64 (n : Int)) := by
    obtain ⟨blk, hTB, hWh⟩ := HT3.out
    rw [List.nil_append, ← hL] at hTB hWh
    rw [hWh.cell, tRow]
    simp only [List.getElem?_toArray]
    rw [List.getElem?_append_right (by simp [S8.len]), List.getElem?_append_right (by simp [S8.len, hTB.1])]
    simp [S8.len, hTB.1, hn]
  have HL := Deep.mk hL
  have HN := Deep.mk hn
  clear hL hn
  go_upto_region 4 with (first
    | (go_at_call 98; refine (ending_any n _ (by omega)).mono ?_; rintro e w4 ⟨A4, c4, rfl, hec, hecm, heo, heb⟩; have HEO := Lib.hid heo; have HEB := Lib.hid heb; have HEM := Lib.hid hecm; clear heo heb hecm))
  have hgw3 : g < w3.heap.size := by have := HG3.out.size; omega
  have hb5 : Below w3.heap.size w3 (w4.alloc (.cells #[Value.slice A4 (endB n).length c4] 23)) := HEB.out.alloc HEB.out.size _
  have hT5 : TX (w4.alloc (.cells #[Value.slice A4 (endB n).length c4] 23)) g ks L := by
    have h := HT3.out.below hb5 hgw3
    rw [List.nil_append, ← HL.out] at h
    exact h
  have hK5 : KT (w4.alloc (.cells #[Value.slice A4 (endB n).length c4] 23)) ks := ((HK2.out.grown HG3.out hKb2 hKg)).below (Nat.lt_of_lt_of_le hKb2 HG3.out.size) hb5
  have hKb5 : 0 < (w4.alloc (.cells #[Value.slice A4 (endB n).length c4] 23)).heap.size := Nat.lt_of_lt_of_le hKb2 (Nat.le_trans HG3.out.size hb5.size)
  have hgw5 : g < (w4.alloc (.cells #[Value.slice A4 (endB n).length c4] 23)).heap.size := Nat.lt_of_lt_of_le hgw3 hb5.size
  have hS5 : Sx (w4.alloc (.cells #[Value.slice A4 (endB n).length c4] 23)) g (some ⟨w4.heap.size, 0, none⟩) [Value.slice A4 (endB n).length c4] := by
    intro hne
    obtain ⟨b', o', e, h1, h2⟩ := sv_new w4 (Value.slice A4 (endB n).length c4) 23 hne
    simp only [Option.some.injEq, Addr.mk.injEq, and_true] at e
    obtain ⟨rfl, rfl⟩ := e
    exact ⟨w4.heap.size, 0, rfl, by simp, by have := HEB.out.size; omega, h2⟩
  have hP5 : Parts (w4.alloc (.cells #[Value.slice A4 (endB n).length c4] 23)) g [Value.slice A4 (endB n).length c4] [endB n] := by
    refine ⟨rfl, fun i v l hv hl => ?_⟩
    rcases i with _ | i
    · obtain rfl := Option.some.inj hv
      obtain rfl := Option.some.inj hl
      exact ⟨A4, c4, rfl, hec, HEM.out, (Sx.of_own HEO.out (by omega)).below ((Below.refl _ _).alloc (Nat.le_refl _) _)⟩
    · cases hv
  have hL5 : L.length + [endB n].flatten.length ≤ 16777216 := by
    have h1 := endB_le n
    have h2 := HN.out
    simp only [List.flatten_cons, List.flatten_nil, List.append_nil]
    omega
  refine (add_any g ks L [endB n] [Value.slice A4 (endB n).length c4] _ 1 1 _ HKS.out hK5 hKb5 hKg hT5 hS5 rfl (Nat.le_refl _) (by unfold maxLen; omega) hP5 hL5).mono ?_
  rintro e w6 ⟨rfl, hg6, ht6⟩
  have HG6 := Lib.hid hg6
  have HT6 := Lib.hid ht6
  have HB5 := Lib.hid hb5
  clear hb5 hT5 hK5 hKb5 hgw5 hS5 hP5 hL5 hg6 ht6
  have hBf : Below w.heap.size w w6 := by
    have h1 := below_grown HB2.out HG3.out hwg HB2.out.size
    have h2 := h1.trans (HB5.out.mono h1.size)
    exact below_grown h2 HG6.out hwg h2.size
  have hrw2 : r < w2.heap.size := by omega
  have hWr6 : Wh w6 r 22 (bRow (List.replicate 32 0)) := by
    have h1 := HWr.out.grown HG3.out (by intro e; have := Option.some.inj e; omega)
    have h2 := h1.below HB5.out (by have := HG3.out.size; omega)
    exact h2.grown HG6.out (by intro e; have := Option.some.inj e; omega)
  have hgw6 : g < w6.heap.size := by have := HB5.out.size; have := HG6.out.size; omega
  obtain ⟨blk, hTB6, hW6⟩ := HT6.out
  rw [List.flatten_cons, List.flatten_nil, List.append_nil] at hTB6 hW6
  have hcs : ∀ j, j < 8 → w6.cell? ⟨g, j, none⟩ = some (.int .u32 (wi ((stB ks (L ++ endB n) ((L ++ endB n).length / 64)).l.getD j 0))) := by
    intro j hj
    rw [hW6.cell, tRow]
    simp only [List.getElem?_toArray]
    rw [List.getElem?_append_left (by simp [S8.len]; exact hj), List.getElem?_map]
    generalize stB ks (L ++ endB n) ((L ++ endB n).length / 64) = s
    have : j < s.l.length := by rw [S8.len]; exact hj
    simp [List.getD, this, cw]
  have hsum : bytesS (stB ks (L ++ endB n) ((L ++ endB n).length / 64)) = sumK ks ps.flatten := by rw [sumK, ← HL.out, ← HN.out]
  obtain ⟨sF, hsF⟩ : ∃ sF, sF = stB ks (L ++ endB n) ((L ++ endB n).length / 64) := ⟨_, rfl⟩
  rw [← hsF] at hcs hsum
  have HBF := Lib.hid hBf
  have HWR6 := Lib.hid hWr6
  have HCS := Deep.mk hcs
  have HSUMM := Deep.mk hsum
  clear hBf hWr6 hcs hsum hsF hTB6 hW6 hrw2 HB2 HK2 HT2 HSA HPA HWr HG3 HT3 HEO HEB HEM HG6 HT6 HB5 HL HN hn16
  go_wp2_with fail
  refine (bytes_any g sF w6 hgw6 HCS.out).mono ?_
  rintro e w7 ⟨rfl, hb7⟩
  have HBF7 := Lib.hid (HBF.out.trans (hb7.mono HBF.out.size))
  have HWR7 := Lib.hid (HWR6.out.below hb7 HWR6.out.lt)
  have hwr7 : w.heap.size ≤ r := by rw [HRR.out]; exact Nat.le_refl _
  clear hb7 HBF HWR6
  obtain ⟨out, hout⟩ : ∃ out, out = bytesS sF := ⟨_, rfl⟩
  rw [← hout]
  have hsl : out.length = 32 := by rw [hout]; exact bytesS_len _
  have HOUT : Deep (out = sumK ks ps.flatten) := ⟨by rw [hout]; exact HSUMM.out⟩
  clear hout HSUMM
  go_wp2_with (refine wpList_store_row rfl 22 (.tmp 2) (.tmp 14) rfl r (bRow out) rfl rfl _ _ HWR7.out (info_bRow hsl) (by rw [bRow_size, bRow_size, hsl]; rfl) (bRow_one _) ?_)
  refine bodyPost_ret (v := .agg (bRow out)) (results_cell_row Tryd.results64 _ _ r _ _ (0, 0) _ rfl (setRow_heap w7 r _ _ _ _ HWR7.out) Tryd.underlying22 rfl (info_bRow hsl)) rfl ?_
  exact ⟨by rw [HOUT.out], below_setRow HBF7.out hwr7 _⟩
end

section
open Go.RowKit

theorem mapM_some {α β : Type} (f : α → Option β) (g : α → β) : ∀ l : List α, (∀ x ∈ l, f x = some (g x)) → l.mapM f = some (l.map g)
  | [], _ => rfl
  | x :: l, h => by
    rw [List.mapM_cons, h x (by simp), mapM_some f g l (fun y hy => h y (by simp [hy]))]
    rfl

section
variable {P : Program}

def ints (q : IntKind) (zs : List Int) : List Value := zs.map fun z => .int q z

theorem keyLits_ints {t e : TypeId} {n : Nat} {q : IntKind} (ht : P.underlying t = some (.array n e)) (he : P.underlying e = some (.int q)) (hct : P.cellsOf t = n) (hce : P.cellsOf e = 1) (d : Nat) (zs : List Int)
    (hl : zs.length = n) (hw : ∀ z ∈ zs, (Lit.int q z).wf = true) : P.keyLits (d + 2) t (ints q zs) = some (zs.map fun z => Lit.int q z) := by
  unfold Program.keyLits
  simp only [ht, hct, hce, Nat.mul_one]
  rw [if_pos (by simp [ints, hl])]
  rw [mapM_some _ (fun i => [Lit.int q (zs.getD i 0)]) (List.range n) (fun i hi => by
    have hi' : i < zs.length := by simp at hi; omega
    have h1 : ((ints q zs).drop i).take 1 = [.int q zs[i]] := by
      unfold ints
      rw [List.drop_eq_getElem_cons (by simpa using hi')]
      simp
    rw [h1]
    unfold Program.keyLits
    simp only [he]
    rw [if_pos ⟨trivial, hw _ (List.getElem_mem hi')⟩]
    simp [List.getD, hi'])]
  simp only [Option.map_some, Option.some.injEq]
  subst hl
  apply List.ext_getElem?
  intro i
  have hflat : ∀ l : List Nat, (l.map fun i => [Lit.int q (zs.getD i 0)]).flatten = l.map fun i => Lit.int q (zs.getD i 0) := by
    intro l
    induction l with
    | nil => rfl
    | cons a l ih => rw [List.map_cons, List.flatten_cons, ih]; rfl
  rw [hflat]
  by_cases hi : i < zs.length
  · simp [hi]
  · rw [List.getElem?_eq_none (by simp; omega), List.getElem?_eq_none (by simp; omega)]

theorem ints_inj {q : IntKind} {a b : List Int} : (a.map fun z => Lit.int q z) = (b.map fun z => Lit.int q z) ↔ a = b := by
  constructor
  · intro h
    have := congrArg (List.map fun x => match x with | Lit.int _ z => z | _ => 0) h
    simpa [List.map_map, Function.comp_def] using this
  · rintro rfl; rfl

/-- '==' of two arrays of integers. -/
theorem run_eql_ints {t e : TypeId} {n : Nat} {q : IntKind} (ht : P.underlying t = some (.array n e)) (he : P.underlying e = some (.int q)) (hct : P.cellsOf t = n) (hce : P.cellsOf e = 1) (hk : P.keyTypeAt 2 t = true)
    (xs ys : List Int) (hx : xs.length = n) (hy : ys.length = n) (wx : ∀ z ∈ xs, (Lit.int q z).wf = true) (wy : ∀ z ∈ ys, (Lit.int q z).wf = true) (w : World) :
    (binOp .eql t (.agg (ints q xs).toArray) (.agg (ints q ys).toArray)).run P w = .ok (.bool (decide (xs = ys))) w := by
  have hf : ∀ zs : List Int, zs.length = n → (Value.agg (ints q zs).toArray).formed P t = true := fun zs hz => by
    simp [Value.formed, ht, hct, ints, hz]
  obtain ⟨r, hr, hiff⟩ := run_equalIn_deep (P := P) 9998 2 t hk w 2 2 (.agg (ints q xs).toArray) (.agg (ints q ys).toArray) _ _ (hf xs hx) (hf ys hy)
    (by simpa [Value.cells] using keyLits_ints ht he hct hce 0 xs hx wx) (by simpa [Value.cells] using keyLits_ints ht he hct hce 0 ys hy wy)
  rw [ints_inj] at hiff
  have hd : r = decide (xs = ys) := by
    rw [Bool.eq_iff_iff, hiff, decide_eq_true_iff]
  rw [run_eql_struct, hr, hd]
  rfl
/-- '==' of two arrays of integers. -/
theorem run_equalIn_ints {t e : TypeId} {n : Nat} {q : IntKind} (ht : P.underlying t = some (.array n e)) (he : P.underlying e = some (.int q)) (hct : P.cellsOf t = n) (hce : P.cellsOf e = 1) (hk : P.keyTypeAt 2 t = true)
    (xs ys : List Int) (hx : xs.length = n) (hy : ys.length = n) (wx : ∀ z ∈ xs, (Lit.int q z).wf = true) (wy : ∀ z ∈ ys, (Lit.int q z).wf = true) (w : World) :
    (Op.equalIn 10000 t (.agg (ints q xs).toArray) (.agg (ints q ys).toArray)).run P w = .ok (decide (xs = ys)) w := by
  have hf : ∀ zs : List Int, zs.length = n → (Value.agg (ints q zs).toArray).formed P t = true := fun zs hz => by
    simp [Value.formed, ht, hct, ints, hz]
  obtain ⟨r, hr, hiff⟩ := run_equalIn_deep (P := P) 9998 2 t hk w 2 2 (.agg (ints q xs).toArray) (.agg (ints q ys).toArray) _ _ (hf xs hx) (hf ys hy)
    (by simpa [Value.cells] using keyLits_ints ht he hct hce 0 xs hx wx) (by simpa [Value.cells] using keyLits_ints ht he hct hce 0 ys hy wy)
  rw [ints_inj] at hiff
  have hd : r = decide (xs = ys) := by
    rw [Bool.eq_iff_iff, hiff, decide_eq_true_iff]
  rw [hr, hd]

end
end

section
open Go.RowKit
set_option linter.unusedVariables false

/-- A row that is known whole, as a slice of bytes. -/
theorem sl_of_wh {w : World} {g : Nat} {t : TypeId} {l : List UInt8} (h : Wh w g t (bRow l)) : Sl w w.heap.size (some ⟨g, 0, none⟩) l := by
  intro _
  refine ⟨g, 0, rfl, h.lt, fun i v hv => ?_⟩
  rw [Nat.zero_add, h.cell, bRow, List.getElem?_toArray]
  exact hv

/-- One part. -/
theorem one_part {w : World} {A : Option Addr} {c : Nat} {l : List UInt8} (h1 : l.length ≤ c) (h2 : c ≤ maxLen) (h3 : Sl w w.heap.size A l) :
    [Value.slice A l.length c].length = [l].length ∧ ∀ (i : Nat) (v : Value) (m : List UInt8), [Value.slice A l.length c][i]? = some v → [l][i]? = some m → ∃ A' c', v = .slice A' m.length c' ∧ m.length ≤ c' ∧ c' ≤ maxLen ∧ Sl w w.heap.size A' m := by
  refine ⟨rfl, fun i v m hv hm => ?_⟩
  rcases i with _ | i
  · obtain rfl := Option.some.inj hv
    obtain rfl := Option.some.inj hm
    exact ⟨A, c, rfl, h1, h2, h3⟩
  · cases hv

theorem wh_second (w : World) (o : Obj) (t : TypeId) (cs : Array Value) : Wh ((w.alloc o).alloc (.cells cs t)) (w.heap.size + 1) t cs := by
  have h := Wh.new (w.alloc o) t cs
  rwa [show (w.alloc o).heap.size = w.heap.size + 1 by simp] at h

/-- Sum of a list of texts that the call has just laid. -/
theorem sum_of (ks : List W32) (ps : List (List UInt8)) (vs : List Value) (n : Nat) (w : World) (hks : ks.length = 64) (hK : KT w ks) (hKb : 0 < w.heap.size) (hvn : vs.length = n) (hn : n ≤ 1000)
    (hP : vs.length = ps.length ∧ ∀ (i : Nat) (v : Value) (l : List UInt8), vs[i]? = some v → ps[i]? = some l → ∃ A c, v = .slice A l.length c ∧ l.length ≤ c ∧ c ≤ maxLen ∧ Sl w w.heap.size A l) (hmax : ps.flatten.length ≤ 16000000) :
    Calls Tryd.prog 64 #[.slice (some ⟨w.heap.size, 0, none⟩) n n] (w.alloc (.cells vs.toArray 23)) fun e w' => e = .returned (.agg (bRow (sumK ks ps.flatten))) ∧ Below w.heap.size w w' := by
  have hb : Below w.heap.size w (w.alloc (.cells vs.toArray 23)) := (Below.refl _ _).alloc (Nat.le_refl _) _
  have hA : Sv (w.alloc (.cells vs.toArray 23)) (w.alloc (.cells vs.toArray 23)).heap.size (some ⟨w.heap.size, 0, none⟩) vs := by
    intro _
    refine ⟨w.heap.size, 0, rfl, by simp, fun i v hv => ?_⟩
    rw [Nat.zero_add, (Wh.new w 23 vs.toArray).cell, List.getElem?_toArray]
    exact hv
  refine (sum_any ks ps vs _ n n _ hks (hK.below hKb hb) (Nat.lt_of_lt_of_le hKb hb.size) hA hvn (Nat.le_refl _) (by unfold maxLen; omega) ⟨hP.1, fun i v l hv hl => ?_⟩ hmax).mono ?_
  · obtain ⟨A, c, h1, h2, h3, h4⟩ := hP.2 i v l hv hl
    exact ⟨A, c, h1, h2, h3, (h4.below hb).keep hb.size (fun _ _ => rfl)⟩
  · rintro e w' ⟨rfl, h⟩
    exact ⟨rfl, hb.trans (h.mono hb.size)⟩

theorem yieldsIf_slice {P : Program} {ops : Array Oper} {S : World → Prop} {op : Oper} {a : Act} (hw : Region.wanted op (yielded ops a.tmps) = true) (ty : TypeId) (x : Operand) (lo hi mx : Option Operand) (ho : op.op = .slice ty x lo hi mx) (v : Value)
    (h : ∀ w, S w → (Instr.sliceAt ty (a.eval x) (lo.map a.eval) (hi.map a.eval) (mx.map a.eval)).run P w = .ok v w) : YieldsIf P ops S op v a :=
  .inl ⟨hw, fun w hw' => by
    unfold execOp
    simp only [ho, Sem.run_bind, h w hw', Result.andThen_ok, Sem.run_pure]⟩
theorem act_normS {P : Program} {md : Region.Mode} {ops : Array Oper} {Q : Exit → Act → World → Prop} {S : World → Prop} {fuel : Nat} {listed : Array Bool} {a b : Act} {w : World} (h : a = b) (k : wpAnyH P md ops Q S fuel listed b w) : wpAnyH P md ops Q S fuel listed a w :=
  h ▸ k
theorem wanted_goS {o : Oper} {y : Nat → Option Bool} {A B : Prop} (h : Region.wanted o y = true) (k : A) : if Region.wanted o y = true then A else B := by rw [if_pos h]; exact k
theorem yieldsIf_strS {P : Program} {ops : Array Oper} {S : World → Prop} {op : Oper} {a : Act} (hw : Region.wanted op (yielded ops a.tmps) = true) (src dst e : TypeId) (x : Operand) (ho : op.op = .convert src dst x)
    (hs : P.underlying src = some (.slice e)) (he : P.underlying e = some (.int .u8)) (hd : P.underlying dst = some .string) (B : Nat) (A : Option Addr) (n c : Nat) (l : List UInt8) (hx : a.eval x = .slice A n c) (hn : l.length = n) (hS : ∀ w, S w → Sl w B A l) :
    YieldsIf P ops S op (.string (strB l)) a :=
  .inl ⟨hw, fun w hw' => by
    unfold execOp
    simp only [ho, hx, Sem.run_bind, run_string_sl w src dst e hs he hd B A n c l (hS w hw') hn, Result.andThen_ok, Sem.run_pure]⟩
theorem bRow_ints (l : List UInt8) : bRow l = (ints .u8 (l.map fun x => (x.toNat : Int))).toArray := by
  unfold bRow ints
  rw [List.map_map]
  rfl
theorem bytes_wf (l : List UInt8) : ∀ z ∈ l.map (fun x => (x.toNat : Int)), (Lit.int .u8 z).wf = true := by
  intro z hz
  obtain ⟨x, _, rfl⟩ := List.mem_map.1 hz
  have := x.toNat_lt
  simp only [Lit.wf, Bool.and_eq_true, decide_eq_true_eq]
  refine ⟨?_, ?_⟩ <;> simp [IntKind.min, IntKind.max, IntKind.signed, IntKind.bits] <;> omega
set_option maxRecDepth 100000 in
set_option maxRecDepth 100000 in
/-- '==' of two sums. -/
theorem eq_sums (a b : List UInt8) (ha : a.length = 32) (hb : b.length = 32) (w : World) : (Op.equalIn 10000 22 (.agg (bRow a)) (.agg (bRow b))).run Tryd.prog w = .ok (decide (a = b)) w := by
  rw [bRow_ints, bRow_ints]
  have h := run_equalIn_ints (P := Tryd.prog) (q := .u8) (n := 32) Tryd.underlying22 Tryd.underlying5 (by kernel_rfl) (by kernel_rfl) (by kernel_rfl) (a.map fun x => (x.toNat : Int)) (b.map fun x => (x.toNat : Int)) (by simpa using ha) (by simpa using hb) (bytes_wf a) (bytes_wf b) w
  rw [h]
  congr 1
  rw [Bool.eq_iff_iff, decide_eq_true_iff, decide_eq_true_iff]
  constructor
  · intro h
    apply List.map_inj_right (f := fun x : UInt8 => (x.toNat : Int)) (fun x y h => UInt8.toNat_inj.1 (by omega)) |>.1 h
  · rintro rfl; rfl
/-- The address of 's[k:]'. -/
def cutA (A : Option Addr) (c k : Nat) : Option Addr := if c = k then A else A.map fun x => x.add k
/-- A part that is cut out. -/
theorem part_cut {w : World} {B : Nat} {A : Option Addr} {l : List UInt8} {len c k n : Nat} (h : Sl w B A l) (hl : l.length = len) (hlc : len ≤ c) : Sl w B (cutA A c k) ((l.drop k).take n) := by
  have h1 := Sv.cut h k n c (by rw [List.length_map, hl]; exact hlc)
  unfold Sl
  rw [List.map_take, List.map_drop]
  exact h1

theorem row_rangeS {w : World} {g : Nat} {t : TypeId} {R : Array Value} (h : Wh w g t R) : w.rangeAt g 0 R.toList := fun j v hv => by
  rw [Nat.zero_add, h.cell]
  simpa using hv

set_option maxRecDepth 100000 in
theorem run_cut1 (A : Option Addr) (len c k : Nat) (h : k ≤ c) (w : World) : (Instr.sliceAt 23 (.slice A len c) none (some (.int .i64 (k : Int))) none).run Tryd.prog w = .ok (.slice A k c) w := by
  have hu : Tryd.prog.underlying 23 = some (.slice (Tryd.prog.elem 23)) := by kernel_rfl
  have h1 : (sizeOf (Tryd.prog.elem 23)).run Tryd.prog w = .ok 1 w := by kernel_rfl
  rw [run_sliceAt_slice w _ _ _ _ _ hu, run_slice_h w _ A len c hu .i64 (k : Int) (by omega) (by omega), h1]
  simp only [Result.andThen_ok, sliced, Int.toNat_natCast, Nat.zero_mul, Nat.sub_zero]
  congr 2
  split
  · rfl
  · cases A <;> simp [Addr.add]
set_option maxRecDepth 100000 in
theorem run_cut2 (A : Option Addr) (len c k h' : Nat) (h : k ≤ h') (h2 : h' ≤ c) (w : World) : (Instr.sliceAt 23 (.slice A len c) (some (.int .i64 (k : Int))) (some (.int .i64 (h' : Int))) none).run Tryd.prog w = .ok (.slice (cutA A c k) (h' - k) (c - k)) w := by
  have hu : Tryd.prog.underlying 23 = some (.slice (Tryd.prog.elem 23)) := by kernel_rfl
  have h1 : (sizeOf (Tryd.prog.elem 23)).run Tryd.prog w = .ok 1 w := by kernel_rfl
  rw [run_sliceAt_slice w _ _ _ _ _ hu, run_slice_lh w _ A len c hu .i64 .i64 (k : Int) (h' : Int) (by omega) (by omega) (by omega), h1]
  simp only [Result.andThen_ok, sliced, Int.toNat_natCast, Nat.mul_one, cutA]
set_option maxRecDepth 100000 in
theorem run_cut3 (A : Option Addr) (len c k : Nat) (h : k ≤ len) (h2 : len ≤ c) (w : World) : (Instr.sliceAt 23 (.slice A len c) (some (.int .i64 (k : Int))) none none).run Tryd.prog w = .ok (.slice (cutA A c k) (len - k) (c - k)) w := by
  have hu : Tryd.prog.underlying 23 = some (.slice (Tryd.prog.elem 23)) := by kernel_rfl
  have h1 : (sizeOf (Tryd.prog.elem 23)).run Tryd.prog w = .ok 1 w := by kernel_rfl
  rw [run_sliceAt_slice w _ _ _ _ _ hu, run_slice_l w _ A len c hu .i64 (k : Int) (by omega) (by omega), h1]
  simp only [Result.andThen_ok, sliced, Int.toNat_natCast, Nat.mul_one, cutA]
end
end Go.Proofs.YtblclinfcdalaaaDoor
