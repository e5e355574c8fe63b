/-
  From a row's premises to what the walks ask: bytes and frames that came in; the three listed tables.
  Frames that come in, one behind the other.
-/
import Derived.Test.YtkkojhkglcigmaaDoorRows
import Derived.Test.YtkkojhkglcigmaaDoorFKnown
import Derived.Test.YtkkojhkglcigmaaDoorLaws
import Derived.Lib.SmallJoins
import Derived.ProofKit
import Derived.OpenShut
import Derived.ShutString
import Derived.ChangeOld
import Derived.Below
import Derived.LaidMore
import Derived.Stop.Joined
import Derived.Lib.LaidTab
import Derived.Stop.LaidErr
import Derived.Deep.SlicePairs
namespace Go.Proofs.YtkkojhkglcigmaaDoor

section
open Go.Joins Go.ChangeShapes Go.WideShapes Go.ChangeAt Go.RowKit Go.Deep
set_option linter.unusedVariables false

theorem own : ownKnob Tryd.prog.godebug = none := by kernel_rfl
theorem laidOut : laidOutB Tryd.prog = true := by kernel_rfl

/-- The variables that the rows list, and what they read as. -/
def laid2 : List (String × DataW Unit) := Rows.frameCutRow.laid

/-- Their names. -/
def tabName : String :=
  match Rows.frameCutRow.named with
  | [_, _, n] => n
  | _ => default
def partsName : String :=
  match Rows.frameCutRow.named with
  | [n, _, _] => n
  | _ => default

theorem gTab : Tryd.prog.globalNamed tabName = some 2 := by kernel_rfl
theorem tTab : (Tryd.prog.globals[2]?).map (·.type) = some 100 := by kernel_rfl
theorem gParts : Tryd.prog.globalNamed partsName = some 0 := by kernel_rfl
theorem tParts : (Tryd.prog.globals[0]?).map (·.type) = some 72 := by kernel_rfl

def zsTab : List Int := [0, 1, 56, 2, 57, 49, 28, 3, 61, 58, 42, 50, 38, 29, 17, 4, 62, 47, 59, 36, 45, 43, 51, 22, 53, 39, 33, 30, 24, 18, 12, 5, 63, 55, 48, 27, 60, 41, 37, 16, 46, 35, 44, 21, 52, 32, 23, 11, 54, 26, 40, 15, 34, 20, 31, 10, 25, 14, 19, 9, 13, 8, 7, 6]
def zsParts : List Int := partsL.map Int.ofNat

theorem tabs_of_laid {W : World} (h : laidMetH Tryd.prog laid2 W) : Tab W ∧ PT W := by
  rw [MakeChecks.laidMetH_plain _ _ _ (by kernel_rfl)] at h
  have h2 : laidMet Tryd.prog ((tabName, Lib.tabData .u8 zsTab) :: (partsName, Lib.tabData .u16 zsParts) :: []) W := laidMet.tail h
  have hT := Lib.tabIs_of_head gTab tTab Tryd.underlying100 Tryd.underlying5 (by kernel_rfl) (by kernel_rfl) h2
  have h3 : laidMet Tryd.prog ((partsName, Lib.tabData .u16 zsParts) :: []) W := laidMet.tail h2
  have hP := Lib.tabIs_of_head gParts tParts Tryd.underlying72 Tryd.underlying61 (by kernel_rfl) (by kernel_rfl) h3
  refine ⟨⟨hT.cell gTab 0 (by decide), hT.cell gTab 1 (by decide), hT.cell gTab 3 (by decide), hT.cell gTab 7 (by decide)⟩, fun k hk => ?_⟩
  have hl : k < zsParts.length := by have e : zsParts.length = 31 := rfl; omega
  have hc := hP.cell gParts k hl
  have hn : k < partsL.length := by have e : partsL.length = 31 := rfl; omega
  rw [hc]
  simp [zsParts, partsN, List.getD, hn]

/-- The heap that the program's own start leaves meets the condition. -/
theorem door_met (os : Os) (args : Array Value) : laidMetH Tryd.prog laid2 ((World.doorLaid Tryd.prog 400 os).forCall (fun _ _ => 0) ⟨#[], args, []⟩).memory :=
  laidMetH_of_parts3 (fuel := 8) (laidMet_of_run' 8 (by kernel_rfl) (by kernel_rfl)) (by kernel_rfl) (by kernel_rfl)

/-- Bytes that came in, as a list of bytes. -/
theorem sl_of_ints {w : World} {B len cap : Nat} {A : Option Addr} {zs : List Int}
    (h : (A = none ∧ len = 0 ∧ cap = 0) ∨ ∃ x, A = some x ∧ x.block < B ∧ len ≤ cap ∧ cap ≤ maxLen ∧ zs.length = cap ∧ (∀ i, i < zs.length → w.cell? (x.add i) = some (.int .u8 (zs.getD i 0))) ∧ ∀ n ∈ zs, (Lit.int .u8 n).wf = true) :
    ∃ l : List UInt8, l.length = len ∧ Sl w B A l ∧ len ≤ cap ∧ cap ≤ maxLen := by
  rcases h with ⟨rfl, rfl, rfl⟩ | ⟨x, rfl, hb, hl, hm, hz, hc, hw⟩
  · exact ⟨[], rfl, Sv.nil _ _ _, Nat.le_refl _, Nat.zero_le _⟩
  · refine ⟨(zs.take len).map fun z => UInt8.ofNat z.toNat, by simp; omega, ?_, hl, hm⟩
    intro hn
    have hpos : 0 < zs.length := by
      rcases Nat.eq_zero_or_pos zs.length with h0 | h0
      · exact absurd (by rw [List.eq_nil_of_length_eq_zero h0]; simp) hn
      · exact h0
    obtain ⟨b, off, spot⟩ := x
    have hspot : spot = none := by simpa [Addr.add] using World.cell?_spot (hc 0 hpos)
    subst hspot
    refine ⟨b, off, rfl, hb, fun i v hv => ?_⟩
    rw [List.getElem?_map, List.getElem?_map, List.getElem?_take] at hv
    split at hv
    · rename_i hi
      have hil : i < zs.length := by omega
      rw [List.getElem?_eq_getElem hil] at hv
      simp only [Option.map_some, Option.some.injEq] at hv
      have hci := hc i hil
      rw [Addr.add_lit] at hci
      rw [hci, ← hv]
      have hwf := hw zs[i] (List.getElem_mem hil)
      have hbd := bounds_u8 hwf
      rw [show zs.getD i 0 = zs[i] by simp [List.getD, hil]]
      unfold cell8
      rw [UInt8.toNat_ofNat', Nat.mod_eq_of_lt (by omega), Int.toNat_of_nonneg hbd.1]
    · cases hv

/-- A slice of bytes that came in, by its reading. -/
theorem sl_open {H : Type} {enc : TypeId × Value → H} {W : World} {held : Bool} {n : Nat} {v : Value} {y : DataW H × List MemPlace} (h : DataW.trod enc Tryd.prog W 0 (fun _ => true) held n 22 [v] = some y) :
    ∃ (A : Option Addr) (c : Nat) (l : List UInt8), v = .slice A l.length c ∧ Sl W W.heap.size A l ∧ l.length ≤ c ∧ c ≤ maxLen := by
  rcases open_ints Tryd.underlying22 Tryd.underlying5 (by kernel_rfl) h with ⟨hcs, _⟩ | ⟨x, len, c, zs, hcs, _, hl, hm, hz, _, hcell, hwz⟩
  · simp only [List.cons.injEq, and_true] at hcs
    subst hcs
    exact ⟨none, 0, [], rfl, Sv.nil _ _ _, Nat.le_refl _, Nat.zero_le _⟩
  · simp only [List.cons.injEq, and_true] at hcs
    subst hcs
    have hz' : zs.length = c := by simpa using hz
    by_cases h0 : zs.length = 0
    · have hz0 : len = 0 := by omega
      subst hz0
      exact ⟨some x, c, [], rfl, Sv.nil _ _ _, Nat.zero_le _, hm⟩
    · have hb : x.block < W.heap.size := by
        have := World.block_lt_of_cell? W _ (hcell 0 (by omega))
        simpa [Addr.add] using this
      obtain ⟨l, h1, h2, h3, h4⟩ := sl_of_ints (w := W) (B := W.heap.size) (len := len) (cap := c) (A := some x) (zs := zs) (.inr ⟨_, rfl, hb, hl, hm, hz', hcell, hwz⟩)
      subst h1
      exact ⟨some x, c, l, rfl, h2, h3, h4⟩

/-- Cells that are bytes each. -/
theorem bytes_of_cells : ∀ cs : List Value, (∀ i, i < cs.length → ∃ z : Int, cs[i]? = some (.int .u8 z) ∧ (Lit.int .u8 z).wf = true) → ∃ l : List UInt8, l.length = cs.length ∧ cs = l.map cell8
  | [], _ => ⟨[], rfl, rfl⟩
  | c :: cs, h => by
    obtain ⟨z, hz, hw⟩ := h 0 (by simp)
    obtain ⟨l, hl, rfl⟩ := bytes_of_cells cs fun i hi => h (i + 1) (by simp; omega)
    simp only [List.getElem?_cons_zero, Option.some.injEq] at hz
    subst hz
    have hb := bounds_u8 hw
    refine ⟨UInt8.ofNat z.toNat :: l, by simp, ?_⟩
    rw [List.map_cons]
    congr 1
    unfold cell8
    rw [UInt8.toNat_ofNat', Nat.mod_eq_of_lt (by omega), Int.toNat_of_nonneg hb.1]

/-- An array of 16 bytes that came in. -/
theorem tok_open {H : Type} {enc : TypeId × Value → H} {W : World} {held : Bool} {n : Nat} {cs : List Value} {y : DataW H × List MemPlace} (h : DataW.trod enc Tryd.prog W 0 (fun _ => true) held n 28 cs = some y) : ∃ l : List UInt8, l.length = 16 ∧ cs = l.map cell8 := by
  obtain ⟨xs, m, _, _, hl, hx, hg⟩ := DataW.trod_array Tryd.underlying28 h
  have hC : Tryd.prog.cellsOf 28 = 16 := by kernel_rfl
  have h1 : Tryd.prog.cellsOf 5 = 1 := by kernel_rfl
  rw [hC] at hl
  rw [h1] at hg
  obtain ⟨l, e1, e2⟩ := bytes_of_cells cs fun i hi => by
    have hgi := hg i (by omega)
    obtain ⟨y, hy⟩ : ∃ y, xs[i]? = some y := ⟨_, List.getElem?_eq_getElem (by omega)⟩
    rw [hy] at hgi
    obtain ⟨z, e, _, hw⟩ := DataW.trod_int Tryd.underlying5 hgi
    refine ⟨z, ?_, hw⟩
    have : cs[i]? = ((cs.drop (i * 1)).take 1)[0]? := by rw [Nat.mul_one, List.getElem?_take_of_lt (by omega), List.getElem?_drop, Nat.add_zero]
    rw [this, e]
    rfl
  exact ⟨l, by omega, e2⟩

set_option maxRecDepth 100000 in
/-- No slice of bytes that came in is greater than any machine's memory. -/
theorem sl_weight {H : Type} {enc : TypeId × Value → H} {W : World} {held : Bool} {n len c : Nat} {A : Option Addr} {y : DataW H × List MemPlace} (h : DataW.trod enc Tryd.prog W 0 (fun _ => true) held n 22 [.slice A len c] = some y)
    (hw : (y.1.weights Tryd.prog 22).all (· ≤ reachBytes) = true) : len ≤ 140737488351232 := by
  rcases DataW.trod_slice Tryd.underlying22 h with ⟨e, _⟩ | ⟨a, l, k, elems, rest, m, _, e, hx, _, _, _, hl, _⟩
  · simp only [List.cons.injEq, Value.slice.injEq, and_true] at e
    omega
  · simp only [List.cons.injEq, Value.slice.injEq, and_true] at e
    obtain ⟨_, rfl, _⟩ := e
    have hd : y.1 = .slice (elems.map (·.1)) (rest.map (·.1)) := by rw [hx]
    rw [hd] at hw
    unfold DataW.weights at hw
    rw [Tryd.underlying22] at hw
    simp only [List.all_cons, Bool.and_eq_true, decide_eq_true_eq, List.length_map] at hw
    have hb : Tryd.prog.bytesOf 5 = 1 := by kernel_rfl
    have h1 := hw.1
    rw [hb] at h1
    unfold reachBytes at h1
    omega

theorem weights_each {H : Type} {P : Program} : ∀ (ts : List TypeId) (ds : List (DataW H)), (DataW.weightsEach P ts ds).all (· ≤ reachBytes) = true → ∀ (i : Nat) (t : TypeId) (d : DataW H), ts[i]? = some t → ds[i]? = some d → (d.weights P t).all (· ≤ reachBytes) = true
  | [], _, _, i, t, d, ht, _ => by simp at ht
  | _ :: _, [], _, i, t, d, _, hd => by simp at hd
  | t0 :: ts, d0 :: ds, h, i, t, d, ht, hd => by
    unfold DataW.weightsEach at h
    rw [List.all_append, Bool.and_eq_true] at h
    match i, ht, hd with
    | 0, ht, hd =>
      simp only [List.getElem?_cons_zero, Option.some.injEq] at ht hd
      subst ht hd
      exact h.1
    | i + 1, ht, hd => exact weights_each ts ds h.2 i t d (by simpa using ht) (by simpa using hd)

def zv : Value → Nat
  | .int _ z => z.toNat
  | _ => 0

theorem zv_of {H : Type} {enc : TypeId × Value → H} {W : World} {held : Bool} {n : Nat} {v : Value} {y : DataW H × List MemPlace} (h : DataW.trod enc Tryd.prog W 0 (fun _ => true) held n 24 [v] = some y) : v = .int .u64 (zv v : Nat) ∧ zv v < big := by
  obtain ⟨z, e, _, hw⟩ := DataW.trod_int Tryd.underlying24 h
  simp only [List.cons.injEq, and_true] at e
  subst e
  have hb := bounds_u64 hw
  refine ⟨?_, ?_⟩
  · show Value.int .u64 z = .int .u64 ((z.toNat : Nat) : Int)
    rw [Int.toNat_of_nonneg hb.1]
  · show z.toNat < big
    unfold big
    omega

set_option maxRecDepth 100000 in
/-- A list of ranges that came in. -/
theorem ranges_open {H : Type} {enc : TypeId × Value → H} {W : World} {held : Bool} {n : Nat} {v : Value} {y : DataW H × List MemPlace} (h : DataW.trod enc Tryd.prog W 0 (fun _ => true) held n 29 [v] = some y)
    (hwt : (y.1.weights Tryd.prog 29).all (· ≤ reachBytes) = true) :
    ∃ (A : Option Addr) (c : Nat) (l : List (Nat × Nat)), v = .slice A l.length c ∧ Sr W W.heap.size A l ∧ l.length ≤ c ∧ c ≤ maxLen ∧ l.length ≤ 140737488351232 ∧ ∀ x ∈ l, x.1 < big ∧ x.2 < big := by
  rcases open_slice_pairs Tryd.underlying29 Tryd.underlying55 (by kernel_rfl) rfl rfl (by kernel_rfl) (by kernel_rfl) h with ⟨hcs, _⟩ | ⟨a, len, cap, m, n', V0, V1, D0, D1, P0, P1, hcs, _, hl, hm, hmm, hy, hx⟩
  · simp only [List.cons.injEq, and_true] at hcs
    subst hcs
    exact ⟨none, 0, [], rfl, fun h => absurd rfl h, Nat.le_refl _, Nat.zero_le _, Nat.zero_le _, fun x h => by cases h⟩
  · simp only [List.cons.injEq, and_true] at hcs
    subst hcs
    rw [if_pos rfl] at hmm
    subst hmm
    have hyd : y.1 = .slice ((List.range len).map fun i => .agg [D0 i, D1 i]) ((List.range (m - len)).map fun j => .agg [D0 (len + j), D1 (len + j)]) := by rw [hy]
    rw [hyd] at hwt
    unfold DataW.weights at hwt
    rw [Tryd.underlying29] at hwt
    simp only [List.all_cons, List.all_append, Bool.and_eq_true, decide_eq_true_eq, List.length_map, List.length_range] at hwt
    obtain ⟨hw1, _⟩ := hwt
    have hb16 : Tryd.prog.bytesOf 55 = 16 := by kernel_rfl
    rw [hb16] at hw1
    unfold reachBytes at hw1
    refine ⟨some a, m, (List.range len).map fun i => (zv (V0 i), zv (V1 i)), by simp, ?_, by simpa using hl, hm, by simp; omega, ?_⟩
    · intro hne
      have hpos : 0 < len := by
        rcases Nat.eq_zero_or_pos len with h0 | h0
        · subst h0; exact absurd rfl hne
        · exact h0
      have hc0 := (hx 0 (by omega)).1
      obtain ⟨b, off, spot⟩ := a
      have hspot : spot = none := by simpa [Addr.add] using World.cell?_spot hc0
      subst hspot
      have hb := World.block_lt_of_cell? W _ hc0
      refine ⟨b, off, rfl, by simpa [Addr.add] using hb, fun i x hi => ?_⟩
      have hil : i < len := by
        have := (List.getElem?_eq_some_iff.1 hi).1
        simpa using this
      obtain rfl : (zv (V0 i), zv (V1 i)) = x := by simpa [hil] using hi
      obtain ⟨c0, c1, t0, t1⟩ := hx i (by omega)
      rw [Addr.add_lit] at c0 c1
      have e0 := (zv_of t0).1
      have e1 := (zv_of t1).1
      exact ⟨by rw [c0]; exact congrArg some e0, by rw [show off + i * 2 + 1 = off + (i * 2 + 1) by omega, c1]; exact congrArg some e1⟩
    · intro x hx'
      obtain ⟨i, hi, rfl⟩ := List.mem_map.1 hx'
      have hi' : i < len := by simpa using hi
      obtain ⟨_, _, t0, t1⟩ := hx i (by omega)
      exact ⟨(zv_of t0).2, (zv_of t1).2⟩

set_option maxRecDepth 100000 in
/-- An array of three numbers that came in. -/
theorem ecn_open {H : Type} {enc : TypeId × Value → H} {W : World} {held : Bool} {n : Nat} {c0 c1 c2 : Value} {y : DataW H × List MemPlace} (h : DataW.trod enc Tryd.prog W 0 (fun _ => true) held n 30 [c0, c1, c2] = some y) :
    (c0 = .int .u64 (zv c0 : Nat) ∧ zv c0 < big) ∧ (c1 = .int .u64 (zv c1 : Nat) ∧ zv c1 < big) ∧ (c2 = .int .u64 (zv c2 : Nat) ∧ zv c2 < big) := by
  obtain ⟨xs, m, _, _, hl, hx, hg⟩ := DataW.trod_array Tryd.underlying30 h
  have h1 : Tryd.prog.cellsOf 24 = 1 := by kernel_rfl
  rw [h1] at hg
  have get : ∀ i, i < 3 → ∃ y, xs[i]? = some y := fun i hi => ⟨_, List.getElem?_eq_getElem (by omega)⟩
  obtain ⟨y0, k0⟩ := get 0 (by omega)
  obtain ⟨y1, k1⟩ := get 1 (by omega)
  obtain ⟨y2, k2⟩ := get 2 (by omega)
  have g0 := hg 0 (by omega)
  have g1 := hg 1 (by omega)
  have g2 := hg 2 (by omega)
  rw [k0] at g0
  rw [k1] at g1
  rw [k2] at g2
  exact ⟨zv_of g0, zv_of g1, zv_of g2⟩

set_option maxRecDepth 100000 in
/-- The cells of a frame that came in. -/
theorem frame_cells {H : Type} {enc : TypeId × Value → H} {W : World} {held : Bool} {fuel : Nat} {cl : List Value} {d : DataW H} {ps : List MemPlace} (hlen : cl.length = 30) (hf : DataW.trod enc Tryd.prog W 0 (fun _ => true) held fuel 32 cl = some (d, ps)) (hw : (d.weights Tryd.prog 32).all (· ≤ reachBytes) = true) :
    ∃ (f : PF) (a : SA), cl = rowF f a ∧ FrAt W W.heap.size f a := by
  have hs := Tryd.underlying32
  have u1 : Tryd.prog.cellsOf 22 = 1 := by kernel_rfl
  have u2 : Tryd.prog.cellsOf 24 = 1 := by kernel_rfl
  have u3 : Tryd.prog.cellsOf 4 = 1 := by kernel_rfl
  have u4 : Tryd.prog.cellsOf 28 = 16 := by kernel_rfl
  have u5 : Tryd.prog.cellsOf 29 = 1 := by kernel_rfl
  have u6 : Tryd.prog.cellsOf 30 = 3 := by kernel_rfl
  obtain ⟨xs, n, _, hxd, _, hx, hg⟩ := DataW.trod_struct hs hf
  have hx13 : xs.length = 13 := hx
  have get : ∀ i, i < 13 → ∃ y, xs[i]? = some y := fun i hi => ⟨_, List.getElem?_eq_getElem (by omega)⟩
  obtain ⟨y0, k0⟩ := get 0 (by omega)
  obtain ⟨y1, k1⟩ := get 1 (by omega)
  obtain ⟨y2, k2⟩ := get 2 (by omega)
  obtain ⟨y3, k3⟩ := get 3 (by omega)
  obtain ⟨y4, k4⟩ := get 4 (by omega)
  obtain ⟨y5, k5⟩ := get 5 (by omega)
  obtain ⟨y6, k6⟩ := get 6 (by omega)
  obtain ⟨y7, k7⟩ := get 7 (by omega)
  obtain ⟨y8, k8⟩ := get 8 (by omega)
  obtain ⟨y9, k9⟩ := get 9 (by omega)
  obtain ⟨y10, k10⟩ := get 10 (by omega)
  obtain ⟨y11, k11⟩ := get 11 (by omega)
  obtain ⟨y12, k12⟩ := get 12 (by omega)
  have g0 := hg 0 _ rfl
  have g1 := hg 1 _ rfl
  have g2 := hg 2 _ rfl
  have g3 := hg 3 _ rfl
  have g4 := hg 4 _ rfl
  have g5 := hg 5 _ rfl
  have g6 := hg 6 _ rfl
  have g7 := hg 7 _ rfl
  have g8 := hg 8 _ rfl
  have g9 := hg 9 _ rfl
  have g10 := hg 10 _ rfl
  have g11 := hg 11 _ rfl
  have g12 := hg 12 _ rfl
  simp only [List.getElem_toArray, List.getElem_cons_zero] at g0
  rw [k0, u2] at g0
  simp only [List.getElem_toArray, List.getElem_cons_zero, List.getElem_cons_succ] at g1
  rw [k1, u2] at g1
  simp only [List.getElem_toArray, List.getElem_cons_zero, List.getElem_cons_succ] at g2
  rw [k2, u2] at g2
  simp only [List.getElem_toArray, List.getElem_cons_zero, List.getElem_cons_succ] at g3
  rw [k3, u2] at g3
  simp only [List.getElem_toArray, List.getElem_cons_zero, List.getElem_cons_succ] at g4
  rw [k4, u2] at g4
  simp only [List.getElem_toArray, List.getElem_cons_zero, List.getElem_cons_succ] at g5
  rw [k5, u2] at g5
  simp only [List.getElem_toArray, List.getElem_cons_zero, List.getElem_cons_succ] at g6
  rw [k6, u3] at g6
  simp only [List.getElem_toArray, List.getElem_cons_zero, List.getElem_cons_succ] at g7
  rw [k7, u1] at g7
  simp only [List.getElem_toArray, List.getElem_cons_zero, List.getElem_cons_succ] at g8
  rw [k8, u1] at g8
  simp only [List.getElem_toArray, List.getElem_cons_zero, List.getElem_cons_succ] at g9
  rw [k9, u4] at g9
  simp only [List.getElem_toArray, List.getElem_cons_zero, List.getElem_cons_succ] at g10
  rw [k10, u5] at g10
  simp only [List.getElem_toArray, List.getElem_cons_zero, List.getElem_cons_succ] at g11
  rw [k11, u2] at g11
  simp only [List.getElem_toArray, List.getElem_cons_zero, List.getElem_cons_succ] at g12
  rw [k12, u6] at g12
  have hd : d = .agg (xs.map (·.1)) := congrArg Prod.fst hxd
  rw [hd] at hw
  unfold DataW.weights at hw
  rw [hs] at hw
  have hw7 := weights_each _ _ hw 7 22 y7.1 rfl (by rw [List.getElem?_map, k7]; rfl)
  have hw8 := weights_each _ _ hw 8 22 y8.1 rfl (by rw [List.getElem?_map, k8]; rfl)
  have hw10 := weights_each _ _ hw 10 29 y10.1 rfl (by rw [List.getElem?_map, k10]; rfl)
  clear hg get hx hf hw hd hxd
  match cl, hlen with
  | [c0, c1, c2, c3, c4, c5, c6, c7, c8, t0, t1, t2, t3, t4, t5, t6, t7, t8, t9, t10, t11, t12, t13, t14, t15, c9, c10, e0, e1, e2], _ =>
    simp only [List.drop_zero, List.drop_succ_cons, List.take_succ_cons, List.take_zero] at g0 g1 g2 g3 g4 g5 g6 g7 g8 g9 g10 g11 g12
    obtain ⟨A7, d7, l7, rfl, s7, m7, n7⟩ := sl_open g7
    obtain ⟨A8, d8, l8, rfl, s8, m8, n8⟩ := sl_open g8
    have q7 := sl_weight g7 hw7
    have q8 := sl_weight g8 hw8
    obtain ⟨A10, d10, l10, rfl, s10, m10, n10, q10, r10⟩ := ranges_open g10 hw10
    obtain ⟨z0, b0⟩ := zv_of g0
    obtain ⟨z1, b1⟩ := zv_of g1
    obtain ⟨z2, b2⟩ := zv_of g2
    obtain ⟨z3, b3⟩ := zv_of g3
    obtain ⟨z4, b4⟩ := zv_of g4
    obtain ⟨z5, b5⟩ := zv_of g5
    obtain ⟨z11, b11⟩ := zv_of g11
    obtain ⟨hh, e6, _⟩ := DataW.trod_bool Tryd.underlying4 g6
    obtain ⟨tk, ht, et⟩ := tok_open g9
    obtain ⟨⟨ze0, be0⟩, ⟨ze1, be1⟩, ⟨ze2, be2⟩⟩ := ecn_open g12
    simp only [List.cons.injEq, and_true] at e6
    subst e6
    refine ⟨⟨zv c0, zv c1, zv c2, zv c3, zv c4, zv c5, hh, l7, l8, tk, l10, zv c10, zv e0, zv e1, zv e2⟩, ⟨A7, d7, A8, d8, A10, d10⟩, ?_, ⟨ht, s7, s8, s10, m7, n7, Nat.le_trans q7 (by decide), m8, n8, Nat.le_trans q8 (by decide), m10, n10, Nat.le_trans q10 (by decide), ⟨b0, b1, b2, b3, b4, b5, b11, be0, be1, be2⟩, r10⟩⟩
    unfold rowF
    simp only [← et, ← z0, ← z1, ← z2, ← z3, ← z4, ← z5, ← z11, ← ze0, ← ze1, ← ze2]
    simp only [List.cons_append, List.nil_append]

/-- A frame that came in. -/
theorem frame_open {H : Type} {enc : TypeId × Value → H} {W : World} {b0 : Nat} {held : Bool} {r : Reach} {v : Value} {d : DataW H} {ps : List MemPlace} (hv : Value.okWide Tryd.prog W r b0 32 v) (h : DataW.Trod enc Tryd.prog W 0 (fun _ => true) held 32 v d ps) (hw : (d.weights Tryd.prog 32).all (· ≤ reachBytes) = true) :
    ∃ (f : PF) (a : SA), v = .agg (rowF f a).toArray ∧ FrAt W W.heap.size f a := by
  have hs := Tryd.underlying32
  have hC : Tryd.prog.cellsOf 32 = 30 := by kernel_rfl
  obtain ⟨cs, rfl, hsz⟩ := okWide_struct hs hv
  obtain ⟨cl⟩ := cs
  rw [hC] at hsz
  obtain ⟨fuel, hf⟩ := h
  obtain ⟨f, a, e, hfr⟩ := frame_cells (cl := cl) hsz hf hw
  exact ⟨f, a, by rw [e], hfr⟩
end

section
open Go.Joins Go.ChangeShapes Go.WideShapes Go.ChangeAt Go.RowKit Go.Deep
set_option linter.unusedVariables false

theorem weights_allF {H : Type} {P : Program} (e : TypeId) : ∀ (ds : List (DataW H)), (DataW.weightsAll P e ds).all (· ≤ reachBytes) = true → ∀ d ∈ ds, (d.weights P e).all (· ≤ reachBytes) = true
  | [], _, d, hd => by cases hd
  | x :: ds, h, d, hd => by
    unfold DataW.weightsAll at h
    rw [List.all_append, Bool.and_eq_true] at h
    rcases List.mem_cons.1 hd with rfl | hd
    · exact h.1
    · exact weights_allF e ds h.2 d hd

set_option maxRecDepth 100000 in
/-- A list of frames that came in. -/
theorem frames_open {H : Type} {enc : TypeId × Value → H} {W : World} {held : Bool} {n : Nat} {v : Value} {y : DataW H × List MemPlace} (h : DataW.trod enc Tryd.prog W 0 (fun _ => true) held n 23 [v] = some y)
    (hwt : (y.1.weights Tryd.prog 23).all (· ≤ reachBytes) = true) :
    ∃ (A : Option Addr) (c : Nat) (l : List (PF × SA)), v = .slice A l.length c ∧ Sf W W.heap.size A l ∧ l.length ≤ c ∧ c ≤ maxLen ∧ l.length ≤ 140737488351232 := by
  have hC : Tryd.prog.cellsOf 32 = 30 := by kernel_rfl
  rcases open_slice Tryd.underlying23 h with ⟨hcs, _⟩ | ⟨a, len, cap, m, n', D, Pl, hcs, _, hl, hm, hmm, hy, hx⟩
  · simp only [List.cons.injEq, and_true] at hcs
    subst hcs
    exact ⟨none, 0, [], rfl, fun h => absurd rfl h, Nat.le_refl _, Nat.zero_le _, Nat.zero_le _⟩
  · simp only [List.cons.injEq, and_true] at hcs
    subst hcs
    rw [if_pos rfl] at hmm
    subst hmm
    rw [hC] at hx
    have hyd : y.1 = .slice ((List.range len).map D) ((List.range (m - len)).map fun j => D (len + j)) := by rw [hy]
    rw [hyd] at hwt
    unfold DataW.weights at hwt
    rw [Tryd.underlying23] at hwt
    simp only [List.all_cons, List.all_append, Bool.and_eq_true, decide_eq_true_eq, List.length_map, List.length_range] at hwt
    obtain ⟨hw1, hw2, _⟩ := hwt
    have hb : Tryd.prog.bytesOf 32 = 176 := by kernel_rfl
    rw [hb] at hw1
    unfold reachBytes at hw1
    have hopen : ∀ i, i < len → ∃ q : PF × SA, (∀ j, j < 30 → W.cell? ((a.add (i * 30)).add j) = (rowF q.1 q.2)[j]?) ∧ FrAt W W.heap.size q.1 q.2 := fun i hi => by
      obtain ⟨cs', h1, h2⟩ := hx i (by omega)
      obtain ⟨_, h3, h4⟩ := World.cells?_some h1
      obtain ⟨f, b, rfl, hf⟩ := frame_cells h3 h2 (weights_allF _ _ hw2 (D i) (List.mem_map.2 ⟨i, by simpa using hi, rfl⟩))
      exact ⟨(f, b), h4, hf⟩
    obtain ⟨Q, hQ⟩ : ∃ Q : Nat → PF × SA, ∀ i, i < len → (∀ j, j < 30 → W.cell? ((a.add (i * 30)).add j) = (rowF (Q i).1 (Q i).2)[j]?) ∧ FrAt W W.heap.size (Q i).1 (Q i).2 := by
      refine ⟨fun i => if h : i < len then Classical.choose (hopen i h) else (zP 0, zA), fun i hi => ?_⟩
      simp only [dif_pos hi]
      exact Classical.choose_spec (hopen i hi)
    refine ⟨some a, m, (List.range len).map Q, by simp, ?_, by simpa using hl, hm, by simp; omega⟩
    intro hne
    have hpos : 0 < len := by
      rcases Nat.eq_zero_or_pos len with h0 | h0
      · subst h0; exact absurd rfl hne
      · exact h0
    have hc0 := ((hQ 0 hpos).1 0 (by omega)).trans (show (rowF (Q 0).1 (Q 0).2)[0]? = some (.int .u64 ((Q 0).1.kind : Int)) from rfl)
    obtain ⟨b, off, spot⟩ := a
    have hspot : spot = none := by
      rcases spot with _ | s
      · rfl
      · have := World.cell?_spot hc0
        simp [Addr.add] at this
    subst hspot
    have hbl := World.block_lt_of_cell? W _ hc0
    refine ⟨b, off, rfl, by simpa [Addr.add] using hbl, fun i x hi => ?_⟩
    have hil : i < len := by
      have := (List.getElem?_eq_some_iff.1 hi).1
      simpa using this
    obtain rfl : Q i = x := by simpa [hil] using hi
    refine ⟨fun j u hu => ?_, (hQ i hil).2⟩
    have hj : j < 30 := by
      have h1 := (List.getElem?_eq_some_iff.1 hu).1
      rw [rowF_length _ (hQ i hil).2.tok] at h1
      exact h1
    have hc := (hQ i hil).1 j hj
    rw [Addr.add_lit, Addr.add_lit] at hc
    rw [hc]
    exact hu
end

end Go.Proofs.YtkkojhkglcigmaaDoor
