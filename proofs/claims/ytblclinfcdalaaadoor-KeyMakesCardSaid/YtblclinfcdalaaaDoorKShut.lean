/-
  From a row's premises to what the walks ask: bytes, lists of texts that came in; the listed table.
-/
import Derived.Test.YtblclinfcdalaaaDoorRows
import Derived.Test.YtblclinfcdalaaaDoorShTake
import Derived.Test.YtblclinfcdalaaaDoorShBytes
import Derived.Test.YtblclinfcdalaaaDoorShConst
import Derived.Lib.SmallJoins
import Derived.ProofKit
import Derived.OpenShut
import Derived.ShutString
import Derived.ChangeOld
import Derived.Below
import Derived.LaidMore
import Derived.Stop.Joined
import Derived.Lib.LaidTab
import Derived.Stop.LaidErr
import Derived.Deep.Slices
namespace Go.Proofs.YtblclinfcdalaaaDoor
open Go.Joins Go.ChangeShapes Go.WideShapes Go.ChangeAt Go.RowKit Go.Deep
set_option linter.unusedVariables false

set_option maxRecDepth 100000 in
theorem own : ownKnob Tryd.prog.godebug = none := by kernel_rfl
set_option maxRecDepth 100000 in
theorem laidOut : laidOutB Tryd.prog = true := by kernel_rfl

/-- The variable that the rows list, and what it reads as. -/
def laid2 : List (String × DataW Unit) := Rows.keyMakesRow.laid

/-- Its name. -/
def tabName : String :=
  match Rows.keyMakesRow.named with
  | [n] => n
  | _ => default

set_option maxRecDepth 100000 in
theorem gTab : Tryd.prog.globalNamed tabName = some 0 := by kernel_rfl
set_option maxRecDepth 100000 in
theorem tTab : (Tryd.prog.globals[0]?).map (·.type) = some 171 := by kernel_rfl

def zsTab : List Int := kNum.map Int.ofNat

set_option maxRecDepth 100000 in
theorem tab_of_laid {W : World} (h : laidMetH Tryd.prog laid2 W) : KT W kW := by
  rw [MakeChecks.laidMetH_plain _ _ _ (by kernel_rfl)] at h
  have h2 : laidMet Tryd.prog ((tabName, Lib.tabData .u32 zsTab) :: []) W := h
  have hT := Lib.tabIs_of_head gTab tTab Tryd.underlying171 Tryd.underlying130 (by kernel_rfl) (by kernel_rfl) h2
  unfold Lib.TabIs World.var? at hT
  rw [gTab] at hT
  have hz : (zsTab.map fun z => Value.int .u32 z).toArray = wRow kW := by kernel_rfl
  rw [hz] at hT
  simp only [Option.bind_some] at hT
  split at hT
  · rename_i cs t fr hg
    obtain rfl := Option.some.inj hT
    exact ⟨t, fr, hg⟩
  · cases hT

set_option maxRecDepth 100000 in
/-- The heap that the program's own start leaves meets the condition. -/
theorem door_met (os : Os) (args : Array Value) : laidMetH Tryd.prog laid2 ((World.doorLaid Tryd.prog 400 os).forCall (fun _ _ => 0) ⟨#[], args, []⟩).memory :=
  laidMetH_of_parts3 (fuel := 8) (laidMet_of_run' 8 (by kernel_rfl) (by kernel_rfl)) (by kernel_rfl) (by kernel_rfl)

set_option maxRecDepth 100000 in
theorem KT.lt {w : World} {ks : List W32} (h : KT w ks) : 0 < w.heap.size := by
  obtain ⟨t, fr, h⟩ := h
  exact (Array.getElem?_eq_some_iff.1 h).1

set_option maxRecDepth 100000 in
/-- Bytes that came in, as a list of bytes. -/
theorem sl_of_ints {w : World} {B len cap : Nat} {A : Option Addr} {zs : List Int}
    (h : (A = none ∧ len = 0 ∧ cap = 0) ∨ ∃ x, A = some x ∧ x.block < B ∧ len ≤ cap ∧ cap ≤ maxLen ∧ zs.length = cap ∧ (∀ i, i < zs.length → w.cell? (x.add i) = some (.int .u8 (zs.getD i 0))) ∧ ∀ n ∈ zs, (Lit.int .u8 n).wf = true) :
    ∃ l : List UInt8, l.length = len ∧ Sl w B A l ∧ len ≤ cap ∧ cap ≤ maxLen := by
  rcases h with ⟨rfl, rfl, rfl⟩ | ⟨x, rfl, hb, hl, hm, hz, hc, hw⟩
  · exact ⟨[], rfl, Sv.nil _ _ _, Nat.le_refl _, Nat.zero_le _⟩
  · refine ⟨(zs.take len).map fun z => UInt8.ofNat z.toNat, by simp; omega, ?_, hl, hm⟩
    intro hn
    have hpos : 0 < zs.length := by
      rcases Nat.eq_zero_or_pos zs.length with h0 | h0
      · exact absurd (by rw [List.eq_nil_of_length_eq_zero h0]; simp) hn
      · exact h0
    obtain ⟨b, off, spot⟩ := x
    have hspot : spot = none := by simpa [Addr.add] using World.cell?_spot (hc 0 hpos)
    subst hspot
    refine ⟨b, off, rfl, hb, fun i v hv => ?_⟩
    rw [List.getElem?_map, List.getElem?_map, List.getElem?_take] at hv
    split at hv
    · rename_i hi
      have hil : i < zs.length := by omega
      rw [List.getElem?_eq_getElem hil] at hv
      simp only [Option.map_some, Option.some.injEq] at hv
      have hci := hc i hil
      rw [Addr.add_lit] at hci
      rw [hci, ← hv]
      have hwf := hw zs[i] (List.getElem_mem hil)
      have hbd := bounds_u8 hwf
      rw [show zs.getD i 0 = zs[i] by simp [List.getD, hil]]
      unfold cell8
      rw [UInt8.toNat_ofNat', Nat.mod_eq_of_lt (by omega), Int.toNat_of_nonneg hbd.1]
    · cases hv

set_option maxRecDepth 100000 in
/-- A slice of bytes that came in, by its reading. -/
theorem sl_open {H : Type} {enc : TypeId × Value → H} {W : World} {held : Bool} {n : Nat} {v : Value} {y : DataW H × List MemPlace} (h : DataW.trod enc Tryd.prog W 0 (fun _ => true) held n 23 [v] = some y) :
    ∃ (A : Option Addr) (c : Nat) (l : List UInt8), v = .slice A l.length c ∧ Sl W W.heap.size A l ∧ l.length ≤ c ∧ c ≤ maxLen := by
  rcases open_ints Tryd.underlying23 Tryd.underlying5 (by kernel_rfl) h with ⟨hcs, _⟩ | ⟨x, len, c, zs, hcs, _, hl, hm, hz, _, hcell, hwz⟩
  · simp only [List.cons.injEq, and_true] at hcs
    subst hcs
    exact ⟨none, 0, [], rfl, Sv.nil _ _ _, Nat.le_refl _, Nat.zero_le _⟩
  · simp only [List.cons.injEq, and_true] at hcs
    subst hcs
    have hz' : zs.length = c := by simpa using hz
    by_cases h0 : zs.length = 0
    · have hz0 : len = 0 := by omega
      subst hz0
      exact ⟨some x, c, [], rfl, Sv.nil _ _ _, Nat.zero_le _, hm⟩
    · have hb : x.block < W.heap.size := by
        have := World.block_lt_of_cell? W _ (hcell 0 (by omega))
        simpa [Addr.add] using this
      obtain ⟨l, h1, h2, h3, h4⟩ := sl_of_ints (w := W) (B := W.heap.size) (len := len) (cap := c) (A := some x) (zs := zs) (.inr ⟨_, rfl, hb, hl, hm, hz', hcell, hwz⟩)
      subst h1
      exact ⟨some x, c, l, rfl, h2, h3, h4⟩

set_option maxRecDepth 100000 in
set_option maxRecDepth 100000 in
/-- No slice of bytes that came in is greater than any machine's memory. -/
theorem sl_weight {H : Type} {enc : TypeId × Value → H} {W : World} {held : Bool} {n len c : Nat} {A : Option Addr} {y : DataW H × List MemPlace} (h : DataW.trod enc Tryd.prog W 0 (fun _ => true) held n 23 [.slice A len c] = some y)
    (hw : (y.1.weights Tryd.prog 23).all (· ≤ reachBytes) = true) : len ≤ 140737488351232 := by
  rcases DataW.trod_slice Tryd.underlying23 h with ⟨e, _⟩ | ⟨a, l, k, elems, rest, m, _, e, hx, _, _, _, hl, _⟩
  · simp only [List.cons.injEq, Value.slice.injEq, and_true] at e
    omega
  · simp only [List.cons.injEq, Value.slice.injEq, and_true] at e
    obtain ⟨_, rfl, _⟩ := e
    have hd : y.1 = .slice (elems.map (·.1)) (rest.map (·.1)) := by rw [hx]
    rw [hd] at hw
    unfold DataW.weights at hw
    rw [Tryd.underlying23] at hw
    simp only [List.all_cons, Bool.and_eq_true, decide_eq_true_eq, List.length_map] at hw
    have hb : Tryd.prog.bytesOf 5 = 1 := by kernel_rfl
    have h1 := hw.1
    rw [hb] at h1
    unfold reachBytes at h1
    omega

set_option maxRecDepth 100000 in
theorem weights_each {H : Type} {P : Program} : ∀ (ts : List TypeId) (ds : List (DataW H)), (DataW.weightsEach P ts ds).all (· ≤ reachBytes) = true → ∀ (i : Nat) (t : TypeId) (d : DataW H), ts[i]? = some t → ds[i]? = some d → (d.weights P t).all (· ≤ reachBytes) = true
  | [], _, _, i, t, d, ht, _ => by simp at ht
  | _ :: _, [], _, i, t, d, _, hd => by simp at hd
  | t0 :: ts, d0 :: ds, h, i, t, d, ht, hd => by
    unfold DataW.weightsEach at h
    rw [List.all_append, Bool.and_eq_true] at h
    match i, ht, hd with
    | 0, ht, hd =>
      simp only [List.getElem?_cons_zero, Option.some.injEq] at ht hd
      subst ht hd
      exact h.1
    | i + 1, ht, hd => exact weights_each ts ds h.2 i t d (by simpa using ht) (by simpa using hd)

set_option maxRecDepth 100000 in
theorem weights_all {H : Type} {P : Program} (e : TypeId) : ∀ (ds : List (DataW H)), (DataW.weightsAll P e ds).all (· ≤ reachBytes) = true → ∀ d ∈ ds, (d.weights P e).all (· ≤ reachBytes) = true
  | [], _, d, hd => by cases hd
  | x :: ds, h, d, hd => by
    unfold DataW.weightsAll at h
    rw [List.all_append, Bool.and_eq_true] at h
    rcases List.mem_cons.1 hd with rfl | hd
    · exact h.1
    · exact weights_all e ds h.2 d hd

set_option maxRecDepth 100000 in
/-- A list of texts that came in, by its reading. -/
theorem parts_open {H : Type} {enc : TypeId × Value → H} {W : World} {held : Bool} {n : Nat} {v : Value} {y : DataW H × List MemPlace} (h : DataW.trod enc Tryd.prog W 0 (fun _ => true) held n 100 [v] = some y)
    (hwt : (y.1.weights Tryd.prog 100).all (· ≤ reachBytes) = true) :
    ∃ (A : Option Addr) (len c : Nat) (vs : List Value) (ps : List (List UInt8)), v = .slice A len c ∧ vs.length = len ∧ len ≤ c ∧ c ≤ maxLen ∧ len ≤ 140737488351232 ∧ (∀ l ∈ ps, l.length ≤ 140737488351232) ∧ Sv W W.heap.size A vs ∧
      (vs.length = ps.length ∧ ∀ (i : Nat) (v : Value) (l : List UInt8), vs[i]? = some v → ps[i]? = some l → ∃ A c, v = .slice A l.length c ∧ l.length ≤ c ∧ c ≤ maxLen ∧ Sl W W.heap.size A l) := by
  rcases open_slice1 Tryd.underlying100 (by kernel_rfl) h with ⟨hcs, _⟩ | ⟨a, len, cap, m, n, V, D, Pl, hcs, _, hl, hm, hmm, hy, hx⟩
  · simp only [List.cons.injEq, and_true] at hcs
    subst hcs
    exact ⟨none, 0, 0, [], [], rfl, rfl, Nat.le_refl _, Nat.zero_le _, Nat.zero_le _, fun l h => (by cases h), Sv.nil _ _ _, rfl, fun i v l hv => by cases hv⟩
  · simp only [List.cons.injEq, and_true] at hcs
    subst hcs
    rw [if_pos rfl] at hmm
    subst hmm
    have hyd : y.1 = .slice ((List.range len).map D) ((List.range (m - len)).map fun j => D (len + j)) := by rw [hy]
    rw [hyd] at hwt
    unfold DataW.weights at hwt
    rw [Tryd.underlying100] at hwt
    simp only [List.all_cons, List.all_append, Bool.and_eq_true, decide_eq_true_eq, List.length_map, List.length_range] at hwt
    obtain ⟨hw1, hw2, _⟩ := hwt
    have hb24 : Tryd.prog.bytesOf 23 = 24 := by kernel_rfl
    rw [hb24] at hw1
    unfold reachBytes at hw1
    have hwD : ∀ i, i < len → ((D i).weights Tryd.prog 23).all (· ≤ reachBytes) = true := fun i hi => weights_all _ _ hw2 (D i) (List.mem_map.2 ⟨i, by simpa using hi, rfl⟩)
    have hopen : ∀ i, i < m → ∃ q : Option Addr × Nat × List UInt8, V i = .slice q.1 q.2.2.length q.2.1 ∧ Sl W W.heap.size q.1 q.2.2 ∧ q.2.2.length ≤ q.2.1 ∧ q.2.1 ≤ maxLen := fun i hi => by
      obtain ⟨A, c, l, h1, h2, h3, h4⟩ := sl_open (hx i hi).2
      exact ⟨(A, c, l), h1, h2, h3, h4⟩
    obtain ⟨Q, hQ⟩ : ∃ Q : Nat → Option Addr × Nat × List UInt8, ∀ i, i < m → V i = .slice (Q i).1 (Q i).2.2.length (Q i).2.1 ∧ Sl W W.heap.size (Q i).1 (Q i).2.2 ∧ (Q i).2.2.length ≤ (Q i).2.1 ∧ (Q i).2.1 ≤ maxLen := by
      refine ⟨fun i => if h : i < m then Classical.choose (hopen i h) else (none, 0, []), fun i hi => ?_⟩
      simp only [dif_pos hi]
      exact Classical.choose_spec (hopen i hi)
    refine ⟨some a, len, m, (List.range len).map V, (List.range len).map fun i => (Q i).2.2, rfl, by simp, hl, hm, by omega, ?_, ?_, by simp, ?_⟩
    · intro l hl'
      obtain ⟨i, hi, rfl⟩ := List.mem_map.1 hl'
      have hi' : i < len := by simpa using hi
      have h2 := (hx i (by omega)).2
      rw [(hQ i (by omega)).1] at h2
      exact sl_weight h2 (hwD i hi')
    · intro hne
      have hpos : 0 < len := by
        rcases Nat.eq_zero_or_pos len with h0 | h0
        · subst h0; exact absurd rfl hne
        · exact h0
      have hc0 := (hx 0 (by omega)).1
      obtain ⟨b, off, spot⟩ := a
      have hspot : spot = none := by simpa [Addr.add] using World.cell?_spot hc0
      subst hspot
      have hb := World.block_lt_of_cell? W _ hc0
      refine ⟨b, off, rfl, by simpa [Addr.add] using hb, fun i v hv => ?_⟩
      rw [List.getElem?_map] at hv
      by_cases hi : i < len
      · rw [List.getElem?_eq_getElem (by simpa using hi)] at hv
        simp only [List.getElem_range, Option.map_some, Option.some.injEq] at hv
        subst hv
        have := (hx i (by omega)).1
        rwa [Addr.add_lit] at this
      · rw [List.getElem?_eq_none (by simpa using hi)] at hv
        cases hv
    · intro i v l hv hl'
      rw [List.getElem?_map] at hv hl'
      by_cases hi : i < len
      · rw [List.getElem?_eq_getElem (by simpa using hi)] at hv hl'
        simp only [List.getElem_range, Option.map_some, Option.some.injEq] at hv hl'
        subst hv hl'
        obtain ⟨h1, h2, h3, h4⟩ := hQ i (by omega)
        exact ⟨(Q i).1, (Q i).2.1, h1, h3, h4, h2⟩
      · rw [List.getElem?_eq_none (by simpa using hi)] at hv
        cases hv

set_option maxRecDepth 100000 in
/-- Cells that are bytes each. -/
theorem bytes_of_cells : ∀ cs : List Value, (∀ i, i < cs.length → ∃ z : Int, cs[i]? = some (.int .u8 z) ∧ (Lit.int .u8 z).wf = true) → ∃ l : List UInt8, l.length = cs.length ∧ cs = l.map cell8
  | [], _ => ⟨[], rfl, rfl⟩
  | c :: cs, h => by
    obtain ⟨z, hz, hw⟩ := h 0 (by simp)
    obtain ⟨l, hl, rfl⟩ := bytes_of_cells cs fun i hi => h (i + 1) (by simp; omega)
    simp only [List.getElem?_cons_zero, Option.some.injEq] at hz
    subst hz
    have hb := bounds_u8 hw
    refine ⟨UInt8.ofNat z.toNat :: l, by simp, ?_⟩
    rw [List.map_cons]
    congr 1
    unfold cell8
    rw [UInt8.toNat_ofNat', Nat.mod_eq_of_lt (by omega), Int.toNat_of_nonneg hb.1]

set_option maxRecDepth 100000 in
theorem okWide_array' {P : Program} {w : World} {r : Reach} {base : Nat} {t : TypeId} {v : Value} {n : Nat} {e : TypeId} (ht : P.underlying t = some (.array n e)) (h : Value.okWide P w r base t v) : ∃ cs, v = .agg cs ∧ cs.size = P.cellsOf t := by
  simp only [Value.okWide, ht] at h
  obtain ⟨cs, h1, h2, _⟩ := h
  exact ⟨cs, h1, h2⟩

set_option maxRecDepth 100000 in
/-- An array of 32 bytes that came in. -/
theorem b32_open {H : Type} {enc : TypeId × Value → H} {W : World} {b0 : Nat} {held : Bool} {r : Reach} {v : Value} {d : DataW H} {ps : List MemPlace} (hv : Value.okWide Tryd.prog W r b0 22 v) (h : DataW.Trod enc Tryd.prog W 0 (fun _ => true) held 22 v d ps) :
    ∃ l : List UInt8, v = .agg (bRow l) ∧ l.length = 32 := by
  have hC : Tryd.prog.cellsOf 22 = 32 := by kernel_rfl
  have h1 : Tryd.prog.cellsOf 5 = 1 := by kernel_rfl
  obtain ⟨cs, rfl, hsz⟩ := okWide_array' Tryd.underlying22 hv
  obtain ⟨cl⟩ := cs
  rw [hC] at hsz
  have hlen : cl.length = 32 := hsz
  obtain ⟨fuel, hf⟩ := h
  obtain ⟨xs, m, _, _, hl, hx, hg⟩ := DataW.trod_array Tryd.underlying22 hf
  simp only [Value.cells] at hg
  rw [h1] at hg
  obtain ⟨l, e1, e2⟩ := bytes_of_cells cl fun i hi => by
    have hgi := hg i (by omega)
    obtain ⟨y, hy⟩ : ∃ y, xs[i]? = some y := ⟨_, List.getElem?_eq_getElem (by omega)⟩
    rw [hy] at hgi
    obtain ⟨z, e, _, hw⟩ := DataW.trod_int Tryd.underlying5 hgi
    refine ⟨z, ?_, hw⟩
    have : cl[i]? = ((cl.drop (i * 1)).take 1)[0]? := by rw [Nat.mul_one, List.getElem?_take_of_lt (by omega), List.getElem?_drop, Nat.add_zero]
    rw [this, e]
    rfl
  exact ⟨l, by rw [e2]; rfl, by omega⟩

set_option maxRecDepth 100000 in
/-- A string that came in. -/
theorem str_open {W : World} {b0 : Nat} {r : Reach} {v : Value} (hv : Value.okWide Tryd.prog W r b0 9 v) : ∃ l : List UInt8, v = .string (strB l) := by
  obtain ⟨s, rfl⟩ := okWide_string Tryd.underlying9 hv
  exact ⟨s.data.toList, by cases s; simp [strB]⟩

end Go.Proofs.YtblclinfcdalaaaDoor
