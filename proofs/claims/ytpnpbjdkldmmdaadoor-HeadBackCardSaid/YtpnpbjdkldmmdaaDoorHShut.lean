/-
  From a row's premises to what the walks ask: bytes and heads that came in; the listed table.
-/
import Derived.Test.YtpnpbjdkldmmdaaDoorRows
import Derived.Test.YtpnpbjdkldmmdaaDoorHKnown
import Derived.Lib.SmallJoins
import Derived.ProofKit
import Derived.OpenShut
import Derived.ShutString
import Derived.ChangeOld
import Derived.Below
import Derived.LaidMore
import Derived.Stop.Joined
import Derived.Lib.LaidTab
import Derived.Stop.LaidErr
namespace Go.Proofs.YtpnpbjdkldmmdaaDoor
open Go.Joins Go.ChangeShapes Go.WideShapes Go.ChangeAt Go.RowKit Go.Deep
set_option linter.unusedVariables false

theorem own : ownKnob Tryd.prog.godebug = none := by kernel_rfl
theorem laidOut : laidOutB Tryd.prog = true := by kernel_rfl

/-- The variables that the rows list, and what they read as. -/
def laid2 : List (String × DataW Unit) := Rows.headBackRow.laid

/-- The second one's name. -/
def tabName : String :=
  match Rows.headBackRow.named with
  | [_, n] => n
  | _ => default

theorem gTab : Tryd.prog.globalNamed tabName = some 1 := by kernel_rfl
theorem tTab : (Tryd.prog.globals[1]?).map (·.type) = some 105 := by kernel_rfl

def zsTab : List Int := [0, 1, 56, 2, 57, 49, 28, 3, 61, 58, 42, 50, 38, 29, 17, 4, 62, 47, 59, 36, 45, 43, 51, 22, 53, 39, 33, 30, 24, 18, 12, 5, 63, 55, 48, 27, 60, 41, 37, 16, 46, 35, 44, 21, 52, 32, 23, 11, 54, 26, 40, 15, 34, 20, 31, 10, 25, 14, 19, 9, 13, 8, 7, 6]

theorem tab_of_laid {W : World} (h : laidMetH Tryd.prog laid2 W) : Tab W := by
  rw [MakeChecks.laidMetH_plain _ _ _ (by kernel_rfl)] at h
  have h2 : laidMet Tryd.prog ((tabName, Lib.tabData .u8 zsTab) :: []) W := laidMet.tail h
  have hT := Lib.tabIs_of_head gTab tTab Tryd.underlying105 Tryd.underlying5 (by kernel_rfl) (by kernel_rfl) h2
  exact ⟨hT.cell gTab 0 (by decide), hT.cell gTab 1 (by decide), hT.cell gTab 3 (by decide), hT.cell gTab 7 (by decide)⟩

/-- The heap that the program's own start leaves meets the condition. -/
theorem door_met (os : Os) (args : Array Value) : laidMetH Tryd.prog laid2 ((World.doorLaid Tryd.prog 400 os).forCall (fun _ _ => 0) ⟨#[], args, []⟩).memory :=
  laidMetH_of_parts3 (fuel := 8) (laidMet_of_run' 8 (by kernel_rfl) (by kernel_rfl)) (by kernel_rfl) (by kernel_rfl)

/-- Bytes that came in, as a list of bytes. -/
theorem sl_of_ints {w : World} {B len cap : Nat} {A : Option Addr} {zs : List Int}
    (h : (A = none ∧ len = 0 ∧ cap = 0) ∨ ∃ x, A = some x ∧ x.block < B ∧ len ≤ cap ∧ cap ≤ maxLen ∧ zs.length = cap ∧ (∀ i, i < zs.length → w.cell? (x.add i) = some (.int .u8 (zs.getD i 0))) ∧ ∀ n ∈ zs, (Lit.int .u8 n).wf = true) :
    ∃ l : List UInt8, l.length = len ∧ Sl w B A l ∧ len ≤ cap ∧ cap ≤ maxLen := by
  rcases h with ⟨rfl, rfl, rfl⟩ | ⟨x, rfl, hb, hl, hm, hz, hc, hw⟩
  · exact ⟨[], rfl, Sv.nil _ _ _, Nat.le_refl _, Nat.zero_le _⟩
  · refine ⟨(zs.take len).map fun z => UInt8.ofNat z.toNat, by simp; omega, ?_, hl, hm⟩
    intro hn
    have hpos : 0 < zs.length := by
      rcases Nat.eq_zero_or_pos zs.length with h0 | h0
      · exact absurd (by rw [List.eq_nil_of_length_eq_zero h0]; simp) hn
      · exact h0
    obtain ⟨b, off, spot⟩ := x
    have hspot : spot = none := by simpa [Addr.add] using World.cell?_spot (hc 0 hpos)
    subst hspot
    refine ⟨b, off, rfl, hb, fun i v hv => ?_⟩
    rw [List.getElem?_map, List.getElem?_map, List.getElem?_take] at hv
    split at hv
    · rename_i hi
      have hil : i < zs.length := by omega
      rw [List.getElem?_eq_getElem hil] at hv
      simp only [Option.map_some, Option.some.injEq] at hv
      have hci := hc i hil
      rw [Addr.add_lit] at hci
      rw [hci, ← hv]
      have hwf := hw zs[i] (List.getElem_mem hil)
      have hbd := bounds_u8 hwf
      rw [show zs.getD i 0 = zs[i] by simp [List.getD, hil]]
      unfold cell8
      rw [UInt8.toNat_ofNat', Nat.mod_eq_of_lt (by omega), Int.toNat_of_nonneg hbd.1]
    · cases hv

/-- A slice of bytes that came in, by its reading. -/
theorem sl_open {H : Type} {enc : TypeId × Value → H} {W : World} {held : Bool} {n : Nat} {v : Value} {y : DataW H × List MemPlace} (h : DataW.trod enc Tryd.prog W 0 (fun _ => true) held n 22 [v] = some y) :
    ∃ (A : Option Addr) (c : Nat) (l : List UInt8), v = .slice A l.length c ∧ Sl W W.heap.size A l ∧ l.length ≤ c ∧ c ≤ maxLen := by
  rcases open_ints Tryd.underlying22 Tryd.underlying5 (by kernel_rfl) h with ⟨hcs, _⟩ | ⟨x, len, c, zs, hcs, _, hl, hm, hz, _, hcell, hwz⟩
  · simp only [List.cons.injEq, and_true] at hcs
    subst hcs
    exact ⟨none, 0, [], rfl, Sv.nil _ _ _, Nat.le_refl _, Nat.zero_le _⟩
  · simp only [List.cons.injEq, and_true] at hcs
    subst hcs
    have hz' : zs.length = c := by simpa using hz
    by_cases h0 : zs.length = 0
    · have hz0 : len = 0 := by omega
      subst hz0
      exact ⟨some x, c, [], rfl, Sv.nil _ _ _, Nat.zero_le _, hm⟩
    · have hb : x.block < W.heap.size := by
        have := World.block_lt_of_cell? W _ (hcell 0 (by omega))
        simpa [Addr.add] using this
      obtain ⟨l, h1, h2, h3, h4⟩ := sl_of_ints (w := W) (B := W.heap.size) (len := len) (cap := c) (A := some x) (zs := zs) (.inr ⟨_, rfl, hb, hl, hm, hz', hcell, hwz⟩)
      subst h1
      exact ⟨some x, c, l, rfl, h2, h3, h4⟩

/-- A struct of seven fields of one cell each, by value: its cells, each with its reading. -/
theorem open_seven {H : Type} {enc : TypeId × Value → H} {P : Program} {w : World} {base b0 : Nat} {spare : Nat → Bool} {held : Bool} {r : Reach} {t : TypeId} {f0 f1 f2 f3 f4 f5 f6 : Field} {v : Value} {d : DataW H} {p : List MemPlace}
    (hs : P.underlying t = some (.struct #[f0, f1, f2, f3, f4, f5, f6])) (hone : oneCellFields P #[f0, f1, f2, f3, f4, f5, f6] = true) (hC : P.cellsOf t = 7) (hv : Value.okWide P w r b0 t v) (h : DataW.Trod enc P w base spare held t v d p) :
    ∃ (c0 c1 c2 c3 c4 c5 c6 : Value) (n : Nat), v = .agg #[c0, c1, c2, c3, c4, c5, c6] ∧ (∃ y, DataW.trod enc P w base spare held n f0.type [c0] = some y) ∧ (∃ y, DataW.trod enc P w base spare held n f1.type [c1] = some y) ∧ (∃ y, DataW.trod enc P w base spare held n f2.type [c2] = some y) ∧
      (∃ y, DataW.trod enc P w base spare held n f3.type [c3] = some y) ∧ (∃ y, DataW.trod enc P w base spare held n f4.type [c4] = some y) ∧ (∃ y, DataW.trod enc P w base spare held n f5.type [c5] = some y) ∧ (∃ y, DataW.trod enc P w base spare held n f6.type [c6] = some y) := by
  obtain ⟨cs, rfl, hsz⟩ := okWide_struct hs hv
  obtain ⟨cl⟩ := cs
  have hlen7 : cl.length = 7 := hsz.trans hC
  match cl, hlen7 with
  | [c0, c1, c2, c3, c4, c5, c6], _ =>
    obtain ⟨fuel, hf⟩ := h
    obtain ⟨ys, n, _, _, _, hlen, hg⟩ := DataW.trod_struct hs hf
    match ys, hlen with
    | [y0, y1, y2, y3, y4, y5, y6], _ =>
      have one := fun i f hi => hone_of hone i f hi
      refine ⟨c0, c1, c2, c3, c4, c5, c6, n, rfl, ⟨y0, ?_⟩, ⟨y1, ?_⟩, ⟨y2, ?_⟩, ⟨y3, ?_⟩, ⟨y4, ?_⟩, ⟨y5, ?_⟩, ⟨y6, ?_⟩⟩
      · obtain ⟨a, b⟩ := one 0 f0 rfl; simpa [Value.cells, a, b] using hg 0 f0 rfl
      · obtain ⟨a, b⟩ := one 1 f1 rfl; simpa [Value.cells, a, b] using hg 1 f1 rfl
      · obtain ⟨a, b⟩ := one 2 f2 rfl; simpa [Value.cells, a, b] using hg 2 f2 rfl
      · obtain ⟨a, b⟩ := one 3 f3 rfl; simpa [Value.cells, a, b] using hg 3 f3 rfl
      · obtain ⟨a, b⟩ := one 4 f4 rfl; simpa [Value.cells, a, b] using hg 4 f4 rfl
      · obtain ⟨a, b⟩ := one 5 f5 rfl; simpa [Value.cells, a, b] using hg 5 f5 rfl
      · obtain ⟨a, b⟩ := one 6 f6 rfl; simpa [Value.cells, a, b] using hg 6 f6 rfl

set_option maxRecDepth 100000 in
/-- A head that came in. -/
theorem head_open {H : Type} {enc : TypeId × Value → H} {W : World} {b0 : Nat} {held : Bool} {r : Reach} {v : Value} {d : DataW H} {p : List MemPlace} (hv : Value.okWide Tryd.prog W r b0 25 v) (h : DataW.Trod enc Tryd.prog W 0 (fun _ => true) held 25 v d p) :
    ∃ (sp pn : Nat) (dst src tok : List UInt8) (ph : Bool) (pnb : Int) (A1 : Option Addr) (c1 : Nat) (A2 : Option Addr) (c2 : Nat) (A3 : Option Addr) (c3 : Nat),
      v = .agg (headC sp A1 dst.length c1 A2 src.length c2 A3 tok.length c3 ph (pn : Int) pnb) ∧ Sl W W.heap.size A1 dst ∧ Sl W W.heap.size A2 src ∧ Sl W W.heap.size A3 tok ∧ sp < 256 ∧ pn < 18446744073709551616 ∧ -9223372036854775808 ≤ pnb ∧ pnb ≤ 9223372036854775807 := by
  obtain ⟨v0, v1, v2, v3, v4, v5, v6, n, rfl, ⟨y0, h0⟩, ⟨y1, h1⟩, ⟨y2, h2⟩, ⟨y3, h3⟩, ⟨y4, h4⟩, ⟨y5, h5⟩, ⟨y6, h6⟩⟩ := open_seven Tryd.underlying25 (by kernel_rfl) (by kernel_rfl) hv h
  obtain ⟨z0, e0, _, w0⟩ := DataW.trod_int Tryd.underlying5 h0
  obtain ⟨A1, c1, dst, rfl, s1, _, _⟩ := sl_open h1
  obtain ⟨A2, c2, src, rfl, s2, _, _⟩ := sl_open h2
  obtain ⟨A3, c3, tok, rfl, s3, _, _⟩ := sl_open h3
  obtain ⟨ph, e4, _⟩ := DataW.trod_bool Tryd.underlying4 h4
  obtain ⟨z5, e5, _, w5⟩ := DataW.trod_int Tryd.underlying23 h5
  obtain ⟨z6, e6, _, w6⟩ := DataW.trod_int Tryd.underlying3 h6
  simp only [List.cons.injEq, and_true] at e0 e4 e5 e6
  subst e0 e4 e5 e6
  have b0 := bounds_u8 w0
  have b5 := bounds_u64 w5
  have b6 := bounds_i64 w6
  obtain ⟨sp, rfl⟩ : ∃ sp : Nat, z0 = (sp : Int) := ⟨z0.toNat, by omega⟩
  obtain ⟨pn, rfl⟩ : ∃ pn : Nat, z5 = (pn : Int) := ⟨z5.toNat, by omega⟩
  exact ⟨sp, pn, dst, src, tok, ph, z6, A1, c1, A2, c2, A3, c3, rfl, s1, s2, s3, by omega, by omega, b6.1, by omega⟩

end Go.Proofs.YtpnpbjdkldmmdaaDoor
