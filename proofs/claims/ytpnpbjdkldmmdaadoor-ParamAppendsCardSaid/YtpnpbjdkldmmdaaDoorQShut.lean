/-
  From a row's premises to what the walks ask: bytes and parameters that came in; the listed table.
-/
import Derived.Test.YtpnpbjdkldmmdaaDoorRows
import Derived.Test.YtpnpbjdkldmmdaaDoorQGet
import Derived.Test.YtpnpbjdkldmmdaaDoorLaws
import Derived.Lib.SmallJoins
import Derived.ProofKit
import Derived.OpenShut
import Derived.ShutString
import Derived.ChangeOld
import Derived.Below
import Derived.LaidMore
import Derived.Stop.Joined
import Derived.Lib.LaidTab
import Derived.Stop.LaidErr
namespace Go.Proofs.YtpnpbjdkldmmdaaDoor
open Go.Joins Go.ChangeShapes Go.WideShapes Go.ChangeAt Go.RowKit Go.Deep
set_option linter.unusedVariables false

theorem own : ownKnob Tryd.prog.godebug = none := by kernel_rfl
theorem laidOut : laidOutB Tryd.prog = true := by kernel_rfl

/-- The variables that the rows list, and what they read as. -/
def laid2 : List (String × DataW Unit) := Rows.paramBackRow.laid

/-- The second one's name. -/
def tabName : String :=
  match Rows.paramBackRow.named with
  | [_, n] => n
  | _ => default

theorem gTab : Tryd.prog.globalNamed tabName = some 1 := by kernel_rfl
theorem tTab : (Tryd.prog.globals[1]?).map (·.type) = some 105 := by kernel_rfl

def zsTab : List Int := [0, 1, 56, 2, 57, 49, 28, 3, 61, 58, 42, 50, 38, 29, 17, 4, 62, 47, 59, 36, 45, 43, 51, 22, 53, 39, 33, 30, 24, 18, 12, 5, 63, 55, 48, 27, 60, 41, 37, 16, 46, 35, 44, 21, 52, 32, 23, 11, 54, 26, 40, 15, 34, 20, 31, 10, 25, 14, 19, 9, 13, 8, 7, 6]

theorem tab_of_laid {W : World} (h : laidMetH Tryd.prog laid2 W) : Tab W := by
  rw [MakeChecks.laidMetH_plain _ _ _ (by kernel_rfl)] at h
  have h2 : laidMet Tryd.prog ((tabName, Lib.tabData .u8 zsTab) :: []) W := laidMet.tail h
  have hT := Lib.tabIs_of_head gTab tTab Tryd.underlying105 Tryd.underlying5 (by kernel_rfl) (by kernel_rfl) h2
  exact ⟨hT.cell gTab 0 (by decide), hT.cell gTab 1 (by decide), hT.cell gTab 3 (by decide), hT.cell gTab 7 (by decide)⟩

/-- The heap that the program's own start leaves meets the condition. -/
theorem door_met (os : Os) (args : Array Value) : laidMetH Tryd.prog laid2 ((World.doorLaid Tryd.prog 400 os).forCall (fun _ _ => 0) ⟨#[], args, []⟩).memory :=
  laidMetH_of_parts3 (fuel := 8) (laidMet_of_run' 8 (by kernel_rfl) (by kernel_rfl)) (by kernel_rfl) (by kernel_rfl)

/-- Bytes that came in, as a list of bytes. -/
theorem sl_of_ints {w : World} {B len cap : Nat} {A : Option Addr} {zs : List Int}
    (h : (A = none ∧ len = 0 ∧ cap = 0) ∨ ∃ x, A = some x ∧ x.block < B ∧ len ≤ cap ∧ cap ≤ maxLen ∧ zs.length = cap ∧ (∀ i, i < zs.length → w.cell? (x.add i) = some (.int .u8 (zs.getD i 0))) ∧ ∀ n ∈ zs, (Lit.int .u8 n).wf = true) :
    ∃ l : List UInt8, l.length = len ∧ Sl w B A l ∧ len ≤ cap ∧ cap ≤ maxLen := by
  rcases h with ⟨rfl, rfl, rfl⟩ | ⟨x, rfl, hb, hl, hm, hz, hc, hw⟩
  · exact ⟨[], rfl, Sv.nil _ _ _, Nat.le_refl _, Nat.zero_le _⟩
  · refine ⟨(zs.take len).map fun z => UInt8.ofNat z.toNat, by simp; omega, ?_, hl, hm⟩
    intro hn
    have hpos : 0 < zs.length := by
      rcases Nat.eq_zero_or_pos zs.length with h0 | h0
      · exact absurd (by rw [List.eq_nil_of_length_eq_zero h0]; simp) hn
      · exact h0
    obtain ⟨b, off, spot⟩ := x
    have hspot : spot = none := by simpa [Addr.add] using World.cell?_spot (hc 0 hpos)
    subst hspot
    refine ⟨b, off, rfl, hb, fun i v hv => ?_⟩
    rw [List.getElem?_map, List.getElem?_map, List.getElem?_take] at hv
    split at hv
    · rename_i hi
      have hil : i < zs.length := by omega
      rw [List.getElem?_eq_getElem hil] at hv
      simp only [Option.map_some, Option.some.injEq] at hv
      have hci := hc i hil
      rw [Addr.add_lit] at hci
      rw [hci, ← hv]
      have hwf := hw zs[i] (List.getElem_mem hil)
      have hbd := bounds_u8 hwf
      rw [show zs.getD i 0 = zs[i] by simp [List.getD, hil]]
      unfold cell8
      rw [UInt8.toNat_ofNat', Nat.mod_eq_of_lt (by omega), Int.toNat_of_nonneg hbd.1]
    · cases hv

/-- A slice of bytes that came in, by its reading. -/
theorem sl_open {H : Type} {enc : TypeId × Value → H} {W : World} {held : Bool} {n : Nat} {v : Value} {y : DataW H × List MemPlace} (h : DataW.trod enc Tryd.prog W 0 (fun _ => true) held n 22 [v] = some y) :
    ∃ (A : Option Addr) (c : Nat) (l : List UInt8), v = .slice A l.length c ∧ Sl W W.heap.size A l ∧ l.length ≤ c ∧ c ≤ maxLen := by
  rcases open_ints Tryd.underlying22 Tryd.underlying5 (by kernel_rfl) h with ⟨hcs, _⟩ | ⟨x, len, c, zs, hcs, _, hl, hm, hz, _, hcell, hwz⟩
  · simp only [List.cons.injEq, and_true] at hcs
    subst hcs
    exact ⟨none, 0, [], rfl, Sv.nil _ _ _, Nat.le_refl _, Nat.zero_le _⟩
  · simp only [List.cons.injEq, and_true] at hcs
    subst hcs
    have hz' : zs.length = c := by simpa using hz
    by_cases h0 : zs.length = 0
    · have hz0 : len = 0 := by omega
      subst hz0
      exact ⟨some x, c, [], rfl, Sv.nil _ _ _, Nat.zero_le _, hm⟩
    · have hb : x.block < W.heap.size := by
        have := World.block_lt_of_cell? W _ (hcell 0 (by omega))
        simpa [Addr.add] using this
      obtain ⟨l, h1, h2, h3, h4⟩ := sl_of_ints (w := W) (B := W.heap.size) (len := len) (cap := c) (A := some x) (zs := zs) (.inr ⟨_, rfl, hb, hl, hm, hz', hcell, hwz⟩)
      subst h1
      exact ⟨some x, c, l, rfl, h2, h3, h4⟩

/-- Cells that are bytes each. -/
theorem bytes_of_cells : ∀ cs : List Value, (∀ i, i < cs.length → ∃ z : Int, cs[i]? = some (.int .u8 z) ∧ (Lit.int .u8 z).wf = true) → ∃ l : List UInt8, l.length = cs.length ∧ cs = l.map cell8
  | [], _ => ⟨[], rfl, rfl⟩
  | c :: cs, h => by
    obtain ⟨z, hz, hw⟩ := h 0 (by simp)
    obtain ⟨l, hl, rfl⟩ := bytes_of_cells cs fun i hi => h (i + 1) (by simp; omega)
    simp only [List.getElem?_cons_zero, Option.some.injEq] at hz
    subst hz
    have hb := bounds_u8 hw
    refine ⟨UInt8.ofNat z.toNat :: l, by simp, ?_⟩
    rw [List.map_cons]
    congr 1
    unfold cell8
    rw [UInt8.toNat_ofNat', Nat.mod_eq_of_lt (by omega), Int.toNat_of_nonneg hb.1]

/-- An array of 16 bytes that came in. -/
theorem tok_open {H : Type} {enc : TypeId × Value → H} {W : World} {held : Bool} {n : Nat} {cs : List Value} {y : DataW H × List MemPlace} (h : DataW.trod enc Tryd.prog W 0 (fun _ => true) held n 41 cs = some y) : ∃ l : List UInt8, l.length = 16 ∧ cs = l.map cell8 := by
  obtain ⟨xs, m, _, _, hl, hx, hg⟩ := DataW.trod_array Tryd.underlying41 h
  have hC : Tryd.prog.cellsOf 41 = 16 := by kernel_rfl
  have h1 : Tryd.prog.cellsOf 5 = 1 := by kernel_rfl
  rw [hC] at hl
  rw [h1] at hg
  obtain ⟨l, e1, e2⟩ := bytes_of_cells cs fun i hi => by
    have hgi := hg i (by omega)
    obtain ⟨y, hy⟩ : ∃ y, xs[i]? = some y := ⟨_, List.getElem?_eq_getElem (by omega)⟩
    rw [hy] at hgi
    obtain ⟨z, e, _, hw⟩ := DataW.trod_int Tryd.underlying5 hgi
    refine ⟨z, ?_, hw⟩
    have : cs[i]? = ((cs.drop (i * 1)).take 1)[0]? := by rw [Nat.mul_one, List.getElem?_take_of_lt (by omega), List.getElem?_drop, Nat.add_zero]
    rw [this, e]
    rfl
  exact ⟨l, by omega, e2⟩

set_option maxRecDepth 100000 in
/-- No slice of bytes that came in is greater than any machine's memory. -/
theorem sl_weight {H : Type} {enc : TypeId × Value → H} {W : World} {held : Bool} {n len c : Nat} {A : Option Addr} {y : DataW H × List MemPlace} (h : DataW.trod enc Tryd.prog W 0 (fun _ => true) held n 22 [.slice A len c] = some y)
    (hw : (y.1.weights Tryd.prog 22).all (· ≤ reachBytes) = true) : len ≤ 140737488351232 := by
  rcases DataW.trod_slice Tryd.underlying22 h with ⟨e, _⟩ | ⟨a, l, k, elems, rest, m, _, e, hx, _, _, _, hl, _⟩
  · simp only [List.cons.injEq, Value.slice.injEq, and_true] at e
    omega
  · simp only [List.cons.injEq, Value.slice.injEq, and_true] at e
    obtain ⟨_, rfl, _⟩ := e
    have hd : y.1 = .slice (elems.map (·.1)) (rest.map (·.1)) := by rw [hx]
    rw [hd] at hw
    unfold DataW.weights at hw
    rw [Tryd.underlying22] at hw
    simp only [List.all_cons, Bool.and_eq_true, decide_eq_true_eq, List.length_map] at hw
    have hb : Tryd.prog.bytesOf 5 = 1 := by kernel_rfl
    have h1 := hw.1
    rw [hb] at h1
    unfold reachBytes at h1
    omega

theorem weights_each {H : Type} {P : Program} : ∀ (ts : List TypeId) (ds : List (DataW H)), (DataW.weightsEach P ts ds).all (· ≤ reachBytes) = true → ∀ (i : Nat) (t : TypeId) (d : DataW H), ts[i]? = some t → ds[i]? = some d → (d.weights P t).all (· ≤ reachBytes) = true
  | [], _, _, i, t, d, ht, _ => by simp at ht
  | _ :: _, [], _, i, t, d, _, hd => by simp at hd
  | t0 :: ts, d0 :: ds, h, i, t, d, ht, hd => by
    unfold DataW.weightsEach at h
    rw [List.all_append, Bool.and_eq_true] at h
    match i, ht, hd with
    | 0, ht, hd =>
      simp only [List.getElem?_cons_zero, Option.some.injEq] at ht hd
      subst ht hd
      exact h.1
    | i + 1, ht, hd => exact weights_each ts ds h.2 i t d (by simpa using ht) (by simpa using hd)

set_option maxRecDepth 100000 in
/-- Parameters that came in. -/
theorem params_open {H : Type} {enc : TypeId × Value → H} {W : World} {b0 : Nat} {held : Bool} {r : Reach} {v : Value} {d : DataW H} {ps : List MemPlace} (hv : Value.okWide Tryd.prog W r b0 43 v) (h : DataW.Trod enc Tryd.prog W 0 (fun _ => true) held 43 v d ps) (hw : (d.weights Tryd.prog 43).all (· ≤ reachBytes) = true) :
    ∃ (p : PQ) (A0 : Option Addr) (c0 : Nat) (A1 : Option Addr) (c1 : Nat), v = .agg (prC A0 c0 A1 c1 p) ∧ p.tok.length = 16 ∧ Sl W W.heap.size A0 p.orig ∧ Sl W W.heap.size A1 p.cid ∧ p.orig.length ≤ 140737488351232 ∧ p.cid.length ≤ 140737488351232 := by
  have hs := Tryd.underlying43
  have hC : Tryd.prog.cellsOf 43 = 28 := by kernel_rfl
  have u1 : Tryd.prog.cellsOf 22 = 1 := by kernel_rfl
  have u2 : Tryd.prog.cellsOf 23 = 1 := by kernel_rfl
  have u3 : Tryd.prog.cellsOf 4 = 1 := by kernel_rfl
  have u4 : Tryd.prog.cellsOf 41 = 16 := by kernel_rfl
  obtain ⟨cs, rfl, hsz⟩ := okWide_struct hs hv
  obtain ⟨cl⟩ := cs
  rw [hC] at hsz
  have hlen : cl.length = 28 := hsz
  obtain ⟨fuel, hf⟩ := h
  obtain ⟨xs, n, _, hxd, _, hx, hg⟩ := DataW.trod_struct hs hf
  have hx13 : xs.length = 13 := hx
  have get : ∀ i, i < 13 → ∃ y, xs[i]? = some y := fun i hi => ⟨_, List.getElem?_eq_getElem (by omega)⟩
  obtain ⟨y0, k0⟩ := get 0 (by omega)
  obtain ⟨y1, k1⟩ := get 1 (by omega)
  obtain ⟨y2, k2⟩ := get 2 (by omega)
  obtain ⟨y3, k3⟩ := get 3 (by omega)
  obtain ⟨y4, k4⟩ := get 4 (by omega)
  obtain ⟨y5, k5⟩ := get 5 (by omega)
  obtain ⟨y6, k6⟩ := get 6 (by omega)
  obtain ⟨y7, k7⟩ := get 7 (by omega)
  obtain ⟨y8, k8⟩ := get 8 (by omega)
  obtain ⟨y9, k9⟩ := get 9 (by omega)
  obtain ⟨y10, k10⟩ := get 10 (by omega)
  obtain ⟨y11, k11⟩ := get 11 (by omega)
  obtain ⟨y12, k12⟩ := get 12 (by omega)
  have g0 := hg 0 _ rfl
  have g1 := hg 1 _ rfl
  have g2 := hg 2 _ rfl
  have g3 := hg 3 _ rfl
  have g4 := hg 4 _ rfl
  have g5 := hg 5 _ rfl
  have g6 := hg 6 _ rfl
  have g7 := hg 7 _ rfl
  have g8 := hg 8 _ rfl
  have g9 := hg 9 _ rfl
  have g10 := hg 10 _ rfl
  have g11 := hg 11 _ rfl
  have g12 := hg 12 _ rfl
  simp only [Value.cells, List.getElem_toArray, List.getElem_cons_zero] at g0
  rw [k0, u1] at g0
  simp only [Value.cells, List.getElem_toArray, List.getElem_cons_zero, List.getElem_cons_succ] at g1
  rw [k1, u1] at g1
  simp only [Value.cells, List.getElem_toArray, List.getElem_cons_zero, List.getElem_cons_succ] at g2
  rw [k2, u2] at g2
  simp only [Value.cells, List.getElem_toArray, List.getElem_cons_zero, List.getElem_cons_succ] at g3
  rw [k3, u2] at g3
  simp only [Value.cells, List.getElem_toArray, List.getElem_cons_zero, List.getElem_cons_succ] at g4
  rw [k4, u2] at g4
  simp only [Value.cells, List.getElem_toArray, List.getElem_cons_zero, List.getElem_cons_succ] at g5
  rw [k5, u2] at g5
  simp only [Value.cells, List.getElem_toArray, List.getElem_cons_zero, List.getElem_cons_succ] at g6
  rw [k6, u2] at g6
  simp only [Value.cells, List.getElem_toArray, List.getElem_cons_zero, List.getElem_cons_succ] at g7
  rw [k7, u2] at g7
  simp only [Value.cells, List.getElem_toArray, List.getElem_cons_zero, List.getElem_cons_succ] at g8
  rw [k8, u2] at g8
  simp only [Value.cells, List.getElem_toArray, List.getElem_cons_zero, List.getElem_cons_succ] at g9
  rw [k9, u2] at g9
  simp only [Value.cells, List.getElem_toArray, List.getElem_cons_zero, List.getElem_cons_succ] at g10
  rw [k10, u2] at g10
  simp only [Value.cells, List.getElem_toArray, List.getElem_cons_zero, List.getElem_cons_succ] at g11
  rw [k11, u3] at g11
  simp only [Value.cells, List.getElem_toArray, List.getElem_cons_zero, List.getElem_cons_succ] at g12
  rw [k12, u4] at g12
  have hd : d = .agg (xs.map (·.1)) := congrArg Prod.fst hxd
  rw [hd] at hw
  unfold DataW.weights at hw
  rw [hs] at hw
  have hw0 := weights_each _ _ hw 0 22 y0.1 rfl (by rw [List.getElem?_map, k0]; rfl)
  have hw1 := weights_each _ _ hw 1 22 y1.1 rfl (by rw [List.getElem?_map, k1]; rfl)
  clear hg get hx hsz hf hw hd hxd
  match cl, hlen with
  | [c0, c1, c2, c3, c4, c5, c6, c7, c8, c9, c10, c11, t0, t1, t2, t3, t4, t5, t6, t7, t8, t9, t10, t11, t12, t13, t14, t15], _ =>
    simp only [List.drop_zero, List.drop_succ_cons, List.take_succ_cons, List.take_zero] at g0 g1 g2 g3 g4 g5 g6 g7 g8 g9 g10 g11 g12
    obtain ⟨A0, d0, l0, rfl, s0, _, _⟩ := sl_open g0
    obtain ⟨A1, d1, l1, rfl, s1, _, _⟩ := sl_open g1
    have q0 := sl_weight g0 hw0
    have q1 := sl_weight g1 hw1
    obtain ⟨z2, e2, _, w2⟩ := DataW.trod_int Tryd.underlying23 g2
    obtain ⟨z3, e3, _, w3⟩ := DataW.trod_int Tryd.underlying23 g3
    obtain ⟨z4, e4, _, w4⟩ := DataW.trod_int Tryd.underlying23 g4
    obtain ⟨z5, e5, _, w5⟩ := DataW.trod_int Tryd.underlying23 g5
    obtain ⟨z6, e6, _, w6⟩ := DataW.trod_int Tryd.underlying23 g6
    obtain ⟨z7, e7, _, w7⟩ := DataW.trod_int Tryd.underlying23 g7
    obtain ⟨z8, e8, _, w8⟩ := DataW.trod_int Tryd.underlying23 g8
    obtain ⟨z9, e9, _, w9⟩ := DataW.trod_int Tryd.underlying23 g9
    obtain ⟨z10, e10, _, w10⟩ := DataW.trod_int Tryd.underlying23 g10
    obtain ⟨hh, e11, _⟩ := DataW.trod_bool Tryd.underlying4 g11
    obtain ⟨tk, ht, e12⟩ := tok_open g12
    simp only [List.cons.injEq, and_true] at e2 e3 e4 e5 e6 e7 e8 e9 e10 e11
    subst e2 e3 e4 e5 e6 e7 e8 e9 e10 e11
    refine ⟨⟨l0, l1, z2.toNat, z3.toNat, z4.toNat, z5.toNat, z6.toNat, z7.toNat, z8.toNat, z9.toNat, z10.toNat, hh, tk⟩, A0, d0, A1, d1, ?_, ht, s0, s1, q0, q1⟩
    unfold prC
    simp only [← e12]
    rw [Int.toNat_of_nonneg (bounds_u64 w2).1, Int.toNat_of_nonneg (bounds_u64 w3).1, Int.toNat_of_nonneg (bounds_u64 w4).1, Int.toNat_of_nonneg (bounds_u64 w5).1, Int.toNat_of_nonneg (bounds_u64 w6).1, Int.toNat_of_nonneg (bounds_u64 w7).1,
      Int.toNat_of_nonneg (bounds_u64 w8).1, Int.toNat_of_nonneg (bounds_u64 w9).1, Int.toNat_of_nonneg (bounds_u64 w10).1]
    simp only [List.append_toArray, List.cons_append, List.nil_append]

end Go.Proofs.YtpnpbjdkldmmdaaDoor
