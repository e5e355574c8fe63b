/-
  The small functions of layer 14.
-/
import Derived.Test.YtmidlgojknfooaaWh
import Derived.Test.YtmidlgojknfooaaRnMath
import Derived.Deep.RegionLaw
import Derived.Deep.Cut
import Derived.BigQuiet
import Derived.Deep.QuietTactic
import Derived.Test.YtmidlgojknfooaaChecked
namespace Go.Proofs.Ytmidlgojknfooaa
open Go.RowKit
set_option linter.unusedVariables false

theorem counted_any (w : World) (n : Nat) :
    Calls Try.prog 16 #[.int .u64 (n : Int)] w fun e w' => e = .returned (.int .u64 (cN n : Int)) ∧ w = w' := by
  go_enter Try.func16, Try.ntmps16
  go_wp2
  all_goals
    go_ret
    refine ⟨congrArg (fun z => Ending.returned (Value.int IntKind.u64 z)) (?_ : (_ : Int) = _), rfl⟩
    unfold cN
    omega

/-- Sizes, that lie anywhere. -/
def Ns (w : World) (A : Option Addr) (l : List Nat) : Prop := Sv w w.heap.size A (l.map cell64)

set_option maxRecDepth 10000 in
theorem more_any (w : World) (b : Nat) (A : Option Addr) (n c : Nat) (l : List Nat) (hl : l.length = n) (hs : Ns w A l) (hn : n ≤ maxLen) :
    Calls Try.prog 15 #[.int .u64 (b : Int), .slice A n c] w fun e w' => e = .returned (.int .u64 (moreN b l : Int)) ∧ w = w' := by
  have HL := Lib.hid hl
  have HS := Lib.hid hs
  have hnm : n ≤ 9223372036854775807 := by unfold maxLen at hn; omega
  have HB0 : Hid ((if (4611686018427387904 : Int) < (b : Int) then (4611686018427387904 : Int) else (b : Int)) = ((min b mB : Nat) : Int)) := Lib.hid (by unfold mB; split <;> omega)
  clear hl hs hn
  go_enter Try.func15, Try.ntmps15
  go_upto_region 2 with (fail)
  rw [HB0.out]
  clear HB0
  go_wp2
  go_loopw [0, 11] (fun s0 s11 wr => ∃ (k v : Nat), k ≤ n ∧ s11 = .int .i64 (k : Int) ∧ s0 = .int .u64 (v : Int) ∧ Hid (v = moreL (min b mB) (l.take k)) ∧ wr = w) (fun _ s11 _ => n - (intOf s11).toNat)
  case atStart => exact ⟨0, _, Nat.zero_le _, rfl, rfl, Lib.hid rfl, rfl⟩
  case round =>
    obtain ⟨k, v, hk, rfl, rfl, hv, rfl⟩ := hrel
    by_cases hlt : k < n
    · obtain ⟨x, hx⟩ : ∃ x, l[k]? = some x := ⟨_, List.getElem?_eq_getElem (by rw [HL.out]; exact hlt)⟩
      obtain ⟨q, off, rfl, hbl, hcc⟩ := Sv.at_ HS.out (by rw [List.length_map, HL.out]; omega)
      have hc : wr.cell? ⟨q, off + k, none⟩ = some (.int .u64 (x : Int)) := hcc k _ (by rw [List.getElem?_map, hx]; rfl)
      have d0 : decide (k < n) = true := decide_eq_true hlt
      have hv1 : v ≤ mB := by rw [hv.out]; exact moreL_le (by omega) _
      have hv2 : cN x ≤ 1099511627776 := by unfold cN; omega
      have HV : Hid (min (v + cN x) mB = moreL (min b mB) (l.take (k + 1))) := Lib.hid (by rw [moreL_step hx, hv.out])
      have hw : IntKind.u64.wrap ((v : Int) + (cN x : Int)) = (v : Int) + (cN x : Int) := by rw [IntKind.wrap_u64]; unfold mB at hv1; omega
      have HM : Hid ((if (4611686018427387904 : Int) < (v : Int) + (cN x : Int) then (4611686018427387904 : Int) else (v : Int) + (cN x : Int)) = ((min (v + cN x) mB : Nat) : Int)) := Lib.hid (by unfold mB; split <;> omega)
      clear hcc hx hv1 hv2
      go_upto_region 6 with (go_at_call 16; refine (counted_any wr x).mono ?_; rintro e w1 ⟨rfl, rfl⟩)
      rw [HM.out]
      go_wp2
      go_roundw
      case rel => exact ⟨k + 1, _, by omega, by go_num, rfl, HV, trivial⟩
      case measure => simp [intOf]; omega
    · obtain rfl : k = n := by omega
      have d0 : decide (k < k) = false := decide_eq_false (by omega)
      have HE : Hid (v = moreN b l) := Lib.hid (by rw [hv.out, List.take_of_length_le (by rw [HL.out]; exact Nat.le_refl _)]; rfl)
      go_wp2
      go_ret
      exact ⟨by rw [HE.out]; rfl, rfl⟩

/-- A window's cells. -/
def nRow (s : NS) : Array Value := #[.int .u64 (s.wi : Int), .int .u64 (s.th : Int), .int .u64 (s.fl : Int), .int .u64 (s.si : Int), .bool s.rc, .int .u64 (s.ac : Int)]
theorem nRow_one (s : NS) : (nRow s).all (·.oneCell') = true := by simp [nRow, Value.oneCell']

/-- The window lies in block g. -/
def NAt (w : World) (g : Nat) (s : NS) : Prop := Wh w g 34 (nRow s)

theorem NAt.lt {w : World} {g : Nat} {s : NS} (h : NAt w g s) : g < w.heap.size := Wh.lt h
theorem NAt.below {w w' : World} {g : Nat} {s : NS} (h : NAt w g s) (hb : Below w.heap.size w w') : NAt w' g s := Wh.below h hb (Wh.lt h)
theorem NAt.c0 {w : World} {g : Nat} {s : NS} (h : NAt w g s) : w.cell? ⟨g, 0, none⟩ = some (.int .u64 (s.wi : Int)) := (Wh.cell h 0).trans rfl
theorem NAt.c1 {w : World} {g : Nat} {s : NS} (h : NAt w g s) : w.cell? ⟨g, 1, none⟩ = some (.int .u64 (s.th : Int)) := (Wh.cell h 1).trans rfl
theorem NAt.c2 {w : World} {g : Nat} {s : NS} (h : NAt w g s) : w.cell? ⟨g, 2, none⟩ = some (.int .u64 (s.fl : Int)) := (Wh.cell h 2).trans rfl
theorem NAt.c3 {w : World} {g : Nat} {s : NS} (h : NAt w g s) : w.cell? ⟨g, 3, none⟩ = some (.int .u64 (s.si : Int)) := (Wh.cell h 3).trans rfl
theorem NAt.c4 {w : World} {g : Nat} {s : NS} (h : NAt w g s) : w.cell? ⟨g, 4, none⟩ = some (.bool s.rc) := (Wh.cell h 4).trans rfl
theorem NAt.c5 {w : World} {g : Nat} {s : NS} (h : NAt w g s) : w.cell? ⟨g, 5, none⟩ = some (.int .u64 (s.ac : Int)) := (Wh.cell h 5).trans rfl
theorem NAt.fz {w : World} {g : Nat} {s : NS} (h : NAt w g s) (i : Nat) : w.frozen? ⟨g, i, none⟩ = false := Wh.frozen h i
/-- A field written. -/
theorem NAt.set {w : World} {g : Nat} {s s' : NS} (h : NAt w g s) (i : Nat) (v : Value) (hr : (nRow s).setIfInBounds i v = nRow s') : NAt (w.setCell ⟨g, i, none⟩ v) g s' := by
  have := Wh.put h i v
  rwa [hr] at this

theorem own_any (w : World) (g t : Nat) (s : NS) (h : NAt w g s) :
    Calls Try.prog 17 #[.pointer (some ⟨g, 0, none⟩), .int .u64 (t : Int)] w fun e w' => e = .returned (.bool (s.own t)) ∧ w = w' := by
  have c4 := h.c4
  have c3 := h.c3
  have HO : Hid (s.own t = (s.rc && decide (t ≤ s.si))) := Lib.hid rfl
  clear h
  generalize s.own t = o at *
  generalize s.rc = r at *
  generalize s.si = z at *
  cases r
  · go_enter Try.func17, Try.ntmps17
    go_wp2
    go_ret
    exact ⟨by rw [HO.out]; rfl, rfl⟩
  · generalize hd : decide (t ≤ z) = d at HO
    cases d
    all_goals
      go_enter Try.func17, Try.ntmps17
      go_wp2
      go_ret
      exact ⟨by rw [HO.out]; rfl, rfl⟩

end Go.Proofs.Ytmidlgojknfooaa
