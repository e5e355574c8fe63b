/-
  aes.New: a key's cipher.
-/
import Derived.Test.YtbnnjkjmadnjkaaDoorSk6
namespace Go.Proofs.YtbnnjkjmadnjkaaDoor
open Go.RowKit
set_option linter.unusedVariables false

theorem foldl_setA (l : List Value) (k : Nat) (Z : Array Value) : ((l.zipIdx k).foldl (fun cs x => cs.setIfInBounds x.2 x.1) Z).size = Z.size ∧
    ∀ i, ((l.zipIdx k).foldl (fun cs x => cs.setIfInBounds x.2 x.1) Z)[i]? = if k ≤ i ∧ i < k + l.length ∧ i < Z.size then l[i - k]? else Z[i]? := by
  induction l generalizing k Z with
  | nil =>
    refine ⟨rfl, fun i => ?_⟩
    rw [if_neg (by simp; omega)]
    rfl
  | cons x l ih =>
    rw [List.zipIdx_cons, List.foldl_cons]
    obtain ⟨h1, h2⟩ := ih (k + 1) (Z.setIfInBounds k x)
    refine ⟨by rw [h1]; simp, fun i => ?_⟩
    rw [h2 i]
    simp only [Array.size_setIfInBounds, List.length_cons]
    by_cases hi : k = i
    · subst hi
      rw [if_neg (by omega), Nat.sub_self]
      by_cases hz : k < Z.size
      · rw [if_pos (by omega)]
        simp [hz]
      · rw [if_neg (by omega)]
        simp [hz]
    · by_cases hc : k + 1 ≤ i ∧ i < k + 1 + l.length ∧ i < Z.size
      · rw [if_pos hc, if_pos (by omega), show i - k = (i - (k + 1)) + 1 by omega, List.getElem?_cons_succ]
      · rw [if_neg hc, if_neg (by omega)]
        simp [hi]

theorem fill_oneA (place : Nat → Option (Nat × Nat)) (Z R : Array Value) (n : Nat) (hp : place 0 = some (0, n)) (hR : R.size = n) (h : Z.size = n) : Instr.fill place Z [(0, .agg R)] = some R := by
  subst hR
  have hf : (R.zipIdx.foldl (fun cs x => cs.setIfInBounds x.2 x.1) Z) = R := by
    have e : R.zipIdx.foldl (fun cs x => cs.setIfInBounds x.2 x.1) Z = (R.toList.zipIdx 0).foldl (fun cs x => cs.setIfInBounds x.2 x.1) Z := by
      rw [← Array.foldl_toList, Array.toList_zipIdx]
    rw [e]
    obtain ⟨h1, h2⟩ := foldl_setA R.toList 0 Z
    apply Array.ext_getElem?
    intro i
    rw [h2 i]
    by_cases hi : i < R.size
    · rw [if_pos (by simp; omega)]
      simp
    · rw [if_neg (by simp; omega), Array.getElem?_eq_none (by omega), Array.getElem?_eq_none (by omega)]
  have hs : R.zipIdx.size = R.size := by simp
  simp [Instr.fill, Value.cells, h, hp]
  rw [← hs]
  exact hf

/-- A cipher out of its keys. -/
theorem built_cipher {R : Array Value} (hR : R.size = 176) : Tryd.prog.built 107 [(0, .agg R)] = some R := by
  have hz : (Tryd.prog.info? 107).map (fun i => i.zero.map (·.cells.size)) = some (some 176) := by kernel_rfl
  have h2 := info_a176
  unfold Program.built
  cases hit : Tryd.prog.info? 107 with
  | none => rw [hit] at hz; cases hz
  | some it =>
    cases hi2 : Tryd.prog.info? 104 with
    | none => rw [hi2] at h2; cases h2
    | some i2 =>
      rw [hit] at hz
      rw [hi2] at h2
      simp only [Option.map_some, Option.some.injEq] at hz h2
      cases hzz : it.zero with
      | none => rw [hzz] at hz; cases hz
      | some z =>
        rw [hzz] at hz
        simp only [Option.map_some, Option.some.injEq] at hz
        simp [Tryd.underlying107, hzz, hi2]
        exact fill_oneA _ _ _ 176 (by simp [h2]) hR hz
theorem info_cipher : (Tryd.prog.info? 107).map (·.size) = some 176 := by kernel_rfl

theorem ksL_b {key : List UInt8} (h : key.length = 16) : B11 (ksL key) := ksS_b h 10 (Nat.le_refl _)
/-- A cipher that was made. -/
def MadeC (w : World) (key : List UInt8) (e : Ending) (w' : World) : Prop :=
  ∃ g, e = .returned (.pointer (some ⟨g, 0, none⟩)) ∧ w.heap.size ≤ g ∧ Wh w' g 107 (aRow (ksL key).flatten) ∧ Below w.heap.size w w'

set_option maxRecDepth 100000 in
set_option maxHeartbeats 400000 in
theorem new_any (key : List UInt8) (w : World) (hl : key.length = 16) : Calls Tryd.prog 39 #[.agg (aRow key)] w (MadeC w key) := by
  have HL := Deep.mk hl
  clear hl
  have hbe : Below w.heap.size w (w.alloc (.cells (aRow key) 23)) := (Below.refl _ _).alloc (Nat.le_refl _) _
  have hwh : Wh (w.alloc (.cells (aRow key) 23)) w.heap.size 23 (aRow key) := Wh.new _ _ _
  obtain ⟨R, hR⟩ : ∃ R, R = aRow (ksL key).flatten := ⟨_, rfl⟩
  have hRs : R.size = 176 := by rw [hR, aRow_size, (ksL_b HL.out).flat]
  have HRS := Deep.mk hRs
  have HBC := Deep.mk (built_cipher hRs)
  have HR := Deep.mk hR
  have HKC := fun w' => keys_any key w' HL.out
  rw [← hR] at HKC
  have HKC := Lib.hid HKC
  have HBE := Lib.hid hbe
  have HWH := Lib.hid hwh
  clear hbe hwh hR hRs
  go_enter Tryd.func39, Tryd.ntmps39
  go_upto_region 1 with (fail)
  generalize w.alloc (.cells (aRow key) 23) = W at *
  obtain ⟨b, hb⟩ : ∃ b, b = w.heap.size := ⟨_, rfl⟩
  rw [← hb] at HWH ⊢
  go_wp2_with (first
    | (refine wpList_load_row rfl 23 (.tmp 1) rfl b rfl _ (aRow key) _ _ HWH.out Tryd.underlying23 rfl (info_aRow HL.out) ?_))
  refine (HKC.out _).mono ?_
  rintro e w2 ⟨rfl, hb2⟩
  have HB2 := Lib.hid (HBE.out.trans (hb2.mono HBE.out.size))
  clear hb2
  go_wp2_with (refine wpList_built1 rfl 107 (.tmp 4) rfl (.agg R) rfl R HBC.out ?_)
  go_ret
  refine ⟨w2.heap.size, rfl, HB2.out.size, ?_, HB2.out.alloc HB2.out.size _⟩
  rw [← HR.out]
  exact Wh.new _ _ _
end Go.Proofs.YtbnnjkjmadnjkaaDoor
