/-
  From a row's premises to what the walks ask: keys, heads and bytes that came in; the three listed tables. Printed by tools/gen_kpshut.py.
-/
import Derived.Test.YtbnnjkjmadnjkaaDoorRows
import Derived.Test.YtbnnjkjmadnjkaaDoorKpSeal
import Derived.Test.YtbnnjkjmadnjkaaDoorSk50
import Derived.Lib.SmallJoins
import Derived.ProofKit
import Derived.OpenShut
import Derived.ShutString
import Derived.ChangeOld
import Derived.Below
import Derived.LaidMore
import Derived.Stop.Joined
import Derived.Lib.LaidTab
import Derived.Stop.LaidErr
import Derived.Deep.Slices
namespace Go.Proofs.YtbnnjkjmadnjkaaDoor
open Go.Joins Go.ChangeShapes Go.WideShapes Go.ChangeAt Go.RowKit Go.Deep
set_option linter.unusedVariables false

theorem own : ownKnob Tryd.prog.godebug = none := by kernel_rfl
theorem laidOut : laidOutB Tryd.prog = true := by kernel_rfl

/-- The variables that the rows list, and what they read as. -/
def laid2 : List (String × DataW Unit) := Rows.keyBackRow.laid

/-- Their names. -/
def tabName : String :=
  match Rows.keyBackRow.named with
  | [_, _, n] => n
  | _ => default
def shaName : String :=
  match Rows.keyBackRow.named with
  | [n, _, _] => n
  | _ => default

theorem gTab : Tryd.prog.globalNamed tabName = some 2 := by kernel_rfl
theorem tTab : (Tryd.prog.globals[2]?).map (·.type) = some 124 := by kernel_rfl
theorem gSha : Tryd.prog.globalNamed shaName = some 0 := by kernel_rfl
theorem tSha : (Tryd.prog.globals[0]?).map (·.type) = some 152 := by kernel_rfl

def zsTab : List Int := [0, 1, 56, 2, 57, 49, 28, 3, 61, 58, 42, 50, 38, 29, 17, 4, 62, 47, 59, 36, 45, 43, 51, 22, 53, 39, 33, 30, 24, 18, 12, 5, 63, 55, 48, 27, 60, 41, 37, 16, 46, 35, 44, 21, 52, 32, 23, 11, 54, 26, 40, 15, 34, 20, 31, 10, 25, 14, 19, 9, 13, 8, 7, 6]
def zsSha : List Int := kNum.map Int.ofNat

theorem tabs_of_laid {W : World} (h : laidMetH Tryd.prog laid2 W) : Tab W ∧ KT W kW := by
  rw [MakeChecks.laidMetH_plain _ _ _ (by kernel_rfl)] at h
  have h2 : laidMet Tryd.prog ((tabName, Lib.tabData .u8 zsTab) :: (shaName, Lib.tabData .u32 zsSha) :: []) W := laidMet.tail h
  have hT := Lib.tabIs_of_head gTab tTab Tryd.underlying124 Tryd.underlying5 (by kernel_rfl) (by kernel_rfl) h2
  have h3 : laidMet Tryd.prog ((shaName, Lib.tabData .u32 zsSha) :: []) W := laidMet.tail h2
  have hP := Lib.tabIs_of_head gSha tSha Tryd.underlying152 Tryd.underlying108 (by kernel_rfl) (by kernel_rfl) h3
  refine ⟨⟨hT.cell gTab 0 (by decide), hT.cell gTab 1 (by decide), hT.cell gTab 3 (by decide), hT.cell gTab 7 (by decide)⟩, ?_⟩
  unfold Lib.TabIs World.var? at hP
  rw [gSha] at hP
  have hz : (zsSha.map fun z => Value.int .u32 z).toArray = wRow kW := by kernel_rfl
  rw [hz] at hP
  simp only [Option.bind_some] at hP
  split at hP
  · rename_i cs t fr hg
    obtain rfl := Option.some.inj hP
    exact ⟨t, fr, hg⟩
  · cases hP

/-- The heap that the program's own start leaves meets the condition. -/
theorem door_met (os : Os) (args : Array Value) : laidMetH Tryd.prog laid2 ((World.doorLaid Tryd.prog 400 os).forCall (fun _ _ => 0) ⟨#[], args, []⟩).memory :=
  laidMetH_of_parts3 (fuel := 8) (laidMet_of_run' 8 (by kernel_rfl) (by kernel_rfl)) (by kernel_rfl) (by kernel_rfl)

theorem KT.lt {w : World} {ks : List W32} (h : KT w ks) : 0 < w.heap.size := by
  obtain ⟨t, fr, h⟩ := h
  exact (Array.getElem?_eq_some_iff.1 h).1

set_option maxRecDepth 100000 in
/-- Bytes that came in, as a list of bytes. -/
theorem sl_of_ints {w : World} {B len cap : Nat} {A : Option Addr} {zs : List Int}
    (h : (A = none ∧ len = 0 ∧ cap = 0) ∨ ∃ x, A = some x ∧ x.block < B ∧ len ≤ cap ∧ cap ≤ maxLen ∧ zs.length = cap ∧ (∀ i, i < zs.length → w.cell? (x.add i) = some (.int .u8 (zs.getD i 0))) ∧ ∀ n ∈ zs, (Lit.int .u8 n).wf = true) :
    ∃ l : List UInt8, l.length = len ∧ Sl w B A l ∧ len ≤ cap ∧ cap ≤ maxLen := by
  rcases h with ⟨rfl, rfl, rfl⟩ | ⟨x, rfl, hb, hl, hm, hz, hc, hw⟩
  · exact ⟨[], rfl, Sv.nil _ _ _, Nat.le_refl _, Nat.zero_le _⟩
  · refine ⟨(zs.take len).map fun z => UInt8.ofNat z.toNat, by simp; omega, ?_, hl, hm⟩
    intro hn
    have hpos : 0 < zs.length := by
      rcases Nat.eq_zero_or_pos zs.length with h0 | h0
      · exact absurd (by rw [List.eq_nil_of_length_eq_zero h0]; simp) hn
      · exact h0
    obtain ⟨b, off, spot⟩ := x
    have hspot : spot = none := by simpa [Addr.add] using World.cell?_spot (hc 0 hpos)
    subst hspot
    refine ⟨b, off, rfl, hb, fun i v hv => ?_⟩
    rw [List.getElem?_map, List.getElem?_map, List.getElem?_take] at hv
    split at hv
    · rename_i hi
      have hil : i < zs.length := by omega
      rw [List.getElem?_eq_getElem hil] at hv
      simp only [Option.map_some, Option.some.injEq] at hv
      have hci := hc i hil
      rw [Addr.add_lit] at hci
      rw [hci, ← hv]
      have hwf := hw zs[i] (List.getElem_mem hil)
      have hbd := bounds_u8 hwf
      rw [show zs.getD i 0 = zs[i] by simp [List.getD, hil]]
      unfold cell8
      rw [UInt8.toNat_ofNat', Nat.mod_eq_of_lt (by omega), Int.toNat_of_nonneg hbd.1]
    · cases hv

set_option maxRecDepth 100000 in
/-- A slice of bytes that came in, by its reading. -/
theorem sl_open {H : Type} {enc : TypeId × Value → H} {W : World} {held : Bool} {n : Nat} {v : Value} {y : DataW H × List MemPlace} (h : DataW.trod enc Tryd.prog W 0 (fun _ => true) held n 28 [v] = some y) :
    ∃ (A : Option Addr) (c : Nat) (l : List UInt8), v = .slice A l.length c ∧ Sl W W.heap.size A l ∧ l.length ≤ c ∧ c ≤ maxLen := by
  rcases open_ints Tryd.underlying28 Tryd.underlying5 (by kernel_rfl) h with ⟨hcs, _⟩ | ⟨x, len, c, zs, hcs, _, hl, hm, hz, _, hcell, hwz⟩
  · simp only [List.cons.injEq, and_true] at hcs
    subst hcs
    exact ⟨none, 0, [], rfl, Sv.nil _ _ _, Nat.le_refl _, Nat.zero_le _⟩
  · simp only [List.cons.injEq, and_true] at hcs
    subst hcs
    have hz' : zs.length = c := by simpa using hz
    by_cases h0 : zs.length = 0
    · have hz0 : len = 0 := by omega
      subst hz0
      exact ⟨some x, c, [], rfl, Sv.nil _ _ _, Nat.zero_le _, hm⟩
    · have hb : x.block < W.heap.size := by
        have := World.block_lt_of_cell? W _ (hcell 0 (by omega))
        simpa [Addr.add] using this
      obtain ⟨l, h1, h2, h3, h4⟩ := sl_of_ints (w := W) (B := W.heap.size) (len := len) (cap := c) (A := some x) (zs := zs) (.inr ⟨_, rfl, hb, hl, hm, hz', hcell, hwz⟩)
      subst h1
      exact ⟨some x, c, l, rfl, h2, h3, h4⟩

set_option maxRecDepth 100000 in
set_option maxRecDepth 100000 in
/-- No slice of bytes that came in is greater than any machine's memory. -/
theorem sl_weight {H : Type} {enc : TypeId × Value → H} {W : World} {held : Bool} {n len c : Nat} {A : Option Addr} {y : DataW H × List MemPlace} (h : DataW.trod enc Tryd.prog W 0 (fun _ => true) held n 28 [.slice A len c] = some y)
    (hw : (y.1.weights Tryd.prog 28).all (· ≤ reachBytes) = true) : len ≤ 140737488351232 := by
  rcases DataW.trod_slice Tryd.underlying28 h with ⟨e, _⟩ | ⟨a, l, k, elems, rest, m, _, e, hx, _, _, _, hl, _⟩
  · simp only [List.cons.injEq, Value.slice.injEq, and_true] at e
    omega
  · simp only [List.cons.injEq, Value.slice.injEq, and_true] at e
    obtain ⟨_, rfl, _⟩ := e
    have hd : y.1 = .slice (elems.map (·.1)) (rest.map (·.1)) := by rw [hx]
    rw [hd] at hw
    unfold DataW.weights at hw
    rw [Tryd.underlying28] at hw
    simp only [List.all_cons, Bool.and_eq_true, decide_eq_true_eq, List.length_map] at hw
    have hb : Tryd.prog.bytesOf 5 = 1 := by kernel_rfl
    have h1 := hw.1
    rw [hb] at h1
    unfold reachBytes at h1
    omega

set_option maxRecDepth 100000 in
theorem weights_each {H : Type} {P : Program} : ∀ (ts : List TypeId) (ds : List (DataW H)), (DataW.weightsEach P ts ds).all (· ≤ reachBytes) = true → ∀ (i : Nat) (t : TypeId) (d : DataW H), ts[i]? = some t → ds[i]? = some d → (d.weights P t).all (· ≤ reachBytes) = true
  | [], _, _, i, t, d, ht, _ => by simp at ht
  | _ :: _, [], _, i, t, d, _, hd => by simp at hd
  | t0 :: ts, d0 :: ds, h, i, t, d, ht, hd => by
    unfold DataW.weightsEach at h
    rw [List.all_append, Bool.and_eq_true] at h
    match i, ht, hd with
    | 0, ht, hd =>
      simp only [List.getElem?_cons_zero, Option.some.injEq] at ht hd
      subst ht hd
      exact h.1
    | i + 1, ht, hd => exact weights_each ts ds h.2 i t d (by simpa using ht) (by simpa using hd)

set_option maxRecDepth 100000 in
theorem weights_all {H : Type} {P : Program} (e : TypeId) : ∀ (ds : List (DataW H)), (DataW.weightsAll P e ds).all (· ≤ reachBytes) = true → ∀ d ∈ ds, (d.weights P e).all (· ≤ reachBytes) = true
  | [], _, d, hd => by cases hd
  | x :: ds, h, d, hd => by
    unfold DataW.weightsAll at h
    rw [List.all_append, Bool.and_eq_true] at h
    rcases List.mem_cons.1 hd with rfl | hd
    · exact h.1
    · exact weights_all e ds h.2 d hd

set_option maxRecDepth 100000 in
/-- Cells that are bytes each. -/
theorem bytes_of_cells : ∀ cs : List Value, (∀ i, i < cs.length → ∃ z : Int, cs[i]? = some (.int .u8 z) ∧ (Lit.int .u8 z).wf = true) → ∃ l : List UInt8, l.length = cs.length ∧ cs = l.map cell8
  | [], _ => ⟨[], rfl, rfl⟩
  | c :: cs, h => by
    obtain ⟨z, hz, hw⟩ := h 0 (by simp)
    obtain ⟨l, hl, rfl⟩ := bytes_of_cells cs fun i hi => h (i + 1) (by simp; omega)
    simp only [List.getElem?_cons_zero, Option.some.injEq] at hz
    subst hz
    have hb := bounds_u8 hw
    refine ⟨UInt8.ofNat z.toNat :: l, by simp, ?_⟩
    rw [List.map_cons]
    congr 1
    unfold cell8
    rw [UInt8.toNat_ofNat', Nat.mod_eq_of_lt (by omega), Int.toNat_of_nonneg hb.1]

set_option maxRecDepth 100000 in
theorem okWide_array' {P : Program} {w : World} {r : Reach} {base : Nat} {t : TypeId} {v : Value} {n : Nat} {e : TypeId} (ht : P.underlying t = some (.array n e)) (h : Value.okWide P w r base t v) : ∃ cs, v = .agg cs ∧ cs.size = P.cellsOf t := by
  simp only [Value.okWide, ht] at h
  obtain ⟨cs, h1, h2, _⟩ := h
  exact ⟨cs, h1, h2⟩

set_option maxRecDepth 100000 in
/-- An array of bytes within what came in. -/
theorem arr_open {H : Type} {enc : TypeId × Value → H} {W : World} {held : Bool} {fuel n : Nat} {t : TypeId} {cl : List Value} {y : DataW H × List MemPlace} (ht : Tryd.prog.underlying t = some (.array n 5)) (hlen : cl.length = n) (hf : DataW.trod enc Tryd.prog W 0 (fun _ => true) held fuel t cl = some y) :
    ∃ l : List UInt8, l.length = n ∧ cl = l.map cell8 := by
  have h1 : Tryd.prog.cellsOf 5 = 1 := by kernel_rfl
  obtain ⟨xs, m, _, _, hl, hx, hg⟩ := DataW.trod_array ht hf
  rw [h1] at hg
  obtain ⟨l, e1, e2⟩ := bytes_of_cells cl fun i hi => by
    have hgi := hg i (by omega)
    obtain ⟨y, hy⟩ : ∃ y, xs[i]? = some y := ⟨_, List.getElem?_eq_getElem (by omega)⟩
    rw [hy] at hgi
    obtain ⟨z, e, _, hw⟩ := DataW.trod_int Tryd.underlying5 hgi
    refine ⟨z, ?_, hw⟩
    have : cl[i]? = ((cl.drop (i * 1)).take 1)[0]? := by rw [Nat.mul_one, List.getElem?_take_of_lt (by omega), List.getElem?_drop, Nat.add_zero]
    rw [this, e]
    rfl
  exact ⟨l, by omega, e2⟩

set_option maxRecDepth 100000 in
/-- Keys that came in. -/
theorem ky_open {H : Type} {enc : TypeId × Value → H} {W : World} {b0 : Nat} {held : Bool} {r : Reach} {v : Value} {d : DataW H} {ps : List MemPlace} (hv : Value.okWide Tryd.prog W r b0 27 v) (h : DataW.Trod enc Tryd.prog W 0 (fun _ => true) held 27 v d ps) :
    ∃ k : KS, v = .agg (kyRow k) ∧ k.Ok := by
  have hs := Tryd.underlying27
  have hC : Tryd.prog.cellsOf 27 = 77 := by kernel_rfl
  have u1 : Tryd.prog.cellsOf 22 = 32 := by kernel_rfl
  have u2 : Tryd.prog.cellsOf 23 = 16 := by kernel_rfl
  have u3 : Tryd.prog.cellsOf 24 = 12 := by kernel_rfl
  have u4 : Tryd.prog.cellsOf 25 = 1 := by kernel_rfl
  obtain ⟨cs, rfl, hsz⟩ := okWide_struct hs hv
  obtain ⟨cl⟩ := cs
  rw [hC] at hsz
  have hlen : cl.length = 77 := hsz
  obtain ⟨fuel, hf⟩ := h
  obtain ⟨xs, n, _, hxd, _, hx, hg⟩ := DataW.trod_struct hs hf
  have hx5 : xs.length = 5 := hx
  have get : ∀ i, i < 5 → ∃ y, xs[i]? = some y := fun i hi => ⟨_, List.getElem?_eq_getElem (by omega)⟩
  obtain ⟨y0, k0⟩ := get 0 (by omega)
  obtain ⟨y1, k1⟩ := get 1 (by omega)
  obtain ⟨y2, k2⟩ := get 2 (by omega)
  obtain ⟨y3, k3⟩ := get 3 (by omega)
  obtain ⟨y4, k4⟩ := get 4 (by omega)
  have g0 := hg 0 _ rfl
  have g1 := hg 1 _ rfl
  have g2 := hg 2 _ rfl
  have g3 := hg 3 _ rfl
  have g4 := hg 4 _ rfl
  simp only [Value.cells, List.getElem_toArray, List.getElem_cons_zero] at g0
  rw [k0, u1] at g0
  simp only [Value.cells, List.getElem_toArray, List.getElem_cons_zero, List.getElem_cons_succ] at g1
  rw [k1, u2] at g1
  simp only [Value.cells, List.getElem_toArray, List.getElem_cons_zero, List.getElem_cons_succ] at g2
  rw [k2, u3] at g2
  simp only [Value.cells, List.getElem_toArray, List.getElem_cons_zero, List.getElem_cons_succ] at g3
  rw [k3, u2] at g3
  simp only [Value.cells, List.getElem_toArray, List.getElem_cons_zero, List.getElem_cons_succ] at g4
  rw [k4, u4] at g4
  obtain ⟨l0, n0, e0⟩ := arr_open Tryd.underlying22 (by rw [List.length_take, List.length_drop, hlen]; rfl) g0
  obtain ⟨l1, n1, e1⟩ := arr_open Tryd.underlying23 (by rw [List.length_take, List.length_drop, hlen]; rfl) g1
  obtain ⟨l2, n2, e2⟩ := arr_open Tryd.underlying24 (by rw [List.length_take, List.length_drop, hlen]; rfl) g2
  obtain ⟨l3, n3, e3⟩ := arr_open Tryd.underlying23 (by rw [List.length_take, List.length_drop, hlen]; rfl) g3
  obtain ⟨z4, e4, _, w4⟩ := DataW.trod_int Tryd.underlying25 g4
  have b4 := bounds_u64 w4
  obtain ⟨p, rfl⟩ : ∃ p : Nat, z4 = (p : Int) := ⟨z4.toNat, by omega⟩
  refine ⟨⟨l0, l1, l2, l3, p⟩, ?_, ⟨n0, n1, n2, n3, by show p < _; omega⟩⟩
  unfold kyRow kyL
  simp only [← e0, ← e1, ← e2, ← e3, ← e4]
  congr 2
  have f0 : cl = cl.take 32 ++ cl.drop 32 := (List.take_append_drop _ _).symm
  have f1 : cl.drop 32 = (cl.drop 32).take 16 ++ cl.drop 48 := by rw [show cl.drop 48 = (cl.drop 32).drop 16 by rw [List.drop_drop], List.take_append_drop]
  have f2 : cl.drop 48 = (cl.drop 48).take 12 ++ cl.drop 60 := by rw [show cl.drop 60 = (cl.drop 48).drop 12 by rw [List.drop_drop], List.take_append_drop]
  have f3 : cl.drop 60 = (cl.drop 60).take 16 ++ cl.drop 76 := by rw [show cl.drop 76 = (cl.drop 60).drop 16 by rw [List.drop_drop], List.take_append_drop]
  have f4 : cl.drop 76 = (cl.drop 76).take 1 := (List.take_of_length_le (by rw [List.length_drop, hlen]; omega)).symm
  rw [List.drop_zero]
  rw [← f4, ← f3, ← f2, ← f1, ← f0]

set_option maxRecDepth 100000 in
/-- A head that came in. -/
theorem head_open {H : Type} {enc : TypeId × Value → H} {W : World} {b0 : Nat} {held : Bool} {r : Reach} {v : Value} {d : DataW H} {ps : List MemPlace} (hv : Value.okWide Tryd.prog W r b0 30 v) (h : DataW.Trod enc Tryd.prog W 0 (fun _ => true) held 30 v d ps) (hw : (d.weights Tryd.prog 30).all (· ≤ reachBytes) = true) :
    ∃ (sp pn : Nat) (dst src tok : List UInt8) (ph : Bool) (pnb : Int) (A1 : Option Addr) (c1 : Nat) (A2 : Option Addr) (c2 : Nat) (A3 : Option Addr) (c3 : Nat),
      v = .agg (headC sp A1 dst.length c1 A2 src.length c2 A3 tok.length c3 ph (pn : Int) pnb) ∧ Sl W W.heap.size A1 dst ∧ Sl W W.heap.size A2 src ∧ Sl W W.heap.size A3 tok ∧ dst.length ≤ 140737488351232 ∧ src.length ≤ 140737488351232 := by
  have hs := Tryd.underlying30
  have hC : Tryd.prog.cellsOf 30 = 7 := by kernel_rfl
  have u0 : Tryd.prog.cellsOf 5 = 1 := by kernel_rfl
  have u1 : Tryd.prog.cellsOf 28 = 1 := by kernel_rfl
  have u2 : Tryd.prog.cellsOf 25 = 1 := by kernel_rfl
  have u3 : Tryd.prog.cellsOf 4 = 1 := by kernel_rfl
  have u4 : Tryd.prog.cellsOf 3 = 1 := by kernel_rfl
  obtain ⟨cs, rfl, hsz⟩ := okWide_struct hs hv
  obtain ⟨cl⟩ := cs
  rw [hC] at hsz
  have hlen : cl.length = 7 := hsz
  obtain ⟨fuel, hf⟩ := h
  obtain ⟨xs, n, _, hxd, _, hx, hg⟩ := DataW.trod_struct hs hf
  have hx7 : xs.length = 7 := hx
  have get : ∀ i, i < 7 → ∃ y, xs[i]? = some y := fun i hi => ⟨_, List.getElem?_eq_getElem (by omega)⟩
  obtain ⟨y0, k0⟩ := get 0 (by omega)
  obtain ⟨y1, k1⟩ := get 1 (by omega)
  obtain ⟨y2, k2⟩ := get 2 (by omega)
  obtain ⟨y3, k3⟩ := get 3 (by omega)
  obtain ⟨y4, k4⟩ := get 4 (by omega)
  obtain ⟨y5, k5⟩ := get 5 (by omega)
  obtain ⟨y6, k6⟩ := get 6 (by omega)
  have g0 := hg 0 _ rfl
  have g1 := hg 1 _ rfl
  have g2 := hg 2 _ rfl
  have g3 := hg 3 _ rfl
  have g4 := hg 4 _ rfl
  have g5 := hg 5 _ rfl
  have g6 := hg 6 _ rfl
  simp only [Value.cells, List.getElem_toArray, List.getElem_cons_zero] at g0
  rw [k0, u0] at g0
  simp only [Value.cells, List.getElem_toArray, List.getElem_cons_zero, List.getElem_cons_succ] at g1
  rw [k1, u1] at g1
  simp only [Value.cells, List.getElem_toArray, List.getElem_cons_zero, List.getElem_cons_succ] at g2
  rw [k2, u1] at g2
  simp only [Value.cells, List.getElem_toArray, List.getElem_cons_zero, List.getElem_cons_succ] at g3
  rw [k3, u1] at g3
  simp only [Value.cells, List.getElem_toArray, List.getElem_cons_zero, List.getElem_cons_succ] at g4
  rw [k4, u3] at g4
  simp only [Value.cells, List.getElem_toArray, List.getElem_cons_zero, List.getElem_cons_succ] at g5
  rw [k5, u2] at g5
  simp only [Value.cells, List.getElem_toArray, List.getElem_cons_zero, List.getElem_cons_succ] at g6
  rw [k6, u4] at g6
  have hd : d = .agg (xs.map (·.1)) := congrArg Prod.fst hxd
  rw [hd] at hw
  unfold DataW.weights at hw
  rw [hs] at hw
  have hw1 := weights_each _ _ hw 1 28 y1.1 rfl (by rw [List.getElem?_map, k1]; rfl)
  have hw2 := weights_each _ _ hw 2 28 y2.1 rfl (by rw [List.getElem?_map, k2]; rfl)
  clear hg get hx hsz hf hw hd hxd
  match cl, hlen with
  | [v0, v1, v2, v3, v4, v5, v6], _ =>
    simp only [List.drop_zero, List.drop_succ_cons, List.take_succ_cons, List.take_zero] at g0 g1 g2 g3 g4 g5 g6
    obtain ⟨z0, e0, _, w0⟩ := DataW.trod_int Tryd.underlying5 g0
    obtain ⟨A1, d1, l1, rfl, s1, _, _⟩ := sl_open g1
    obtain ⟨A2, d2, l2, rfl, s2, _, _⟩ := sl_open g2
    obtain ⟨A3, d3, l3, rfl, s3, _, _⟩ := sl_open g3
    have q1 := sl_weight g1 hw1
    have q2 := sl_weight g2 hw2
    obtain ⟨ph, e4, _⟩ := DataW.trod_bool Tryd.underlying4 g4
    obtain ⟨z5, e5, _, w5⟩ := DataW.trod_int Tryd.underlying25 g5
    obtain ⟨z6, e6, _, w6⟩ := DataW.trod_int Tryd.underlying3 g6
    simp only [List.cons.injEq, and_true] at e0 e4 e5 e6
    subst e0 e4 e5 e6
    have b0 := bounds_u8 w0
    have b5 := bounds_u64 w5
    obtain ⟨sp, rfl⟩ : ∃ sp : Nat, z0 = (sp : Int) := ⟨z0.toNat, by omega⟩
    obtain ⟨pn, rfl⟩ : ∃ pn : Nat, z5 = (pn : Int) := ⟨z5.toNat, by omega⟩
    exact ⟨sp, pn, l1, l2, l3, ph, z6, A1, d1, A2, d2, A3, d3, rfl, s1, s2, s3, q1, q2⟩
end Go.Proofs.YtbnnjkjmadnjkaaDoor
