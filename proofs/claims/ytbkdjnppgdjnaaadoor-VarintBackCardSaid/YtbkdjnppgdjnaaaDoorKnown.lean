/-
  The walk through the statements' own first question (known): the chapter's rows.
-/
import Derived.Test.YtbkdjnppgdjnaaaDoorAppend
import Derived.Test.YtbkdjnppgdjnaaaDoorRefPart
namespace Go.Proofs.YtbkdjnppgdjnaaaDoor
open Go.RowKit
set_option linter.unusedVariables false

/-- A new block, as a slice. -/
theorem sv_block (w : World) (cs : Array Value) (t : TypeId) (B : Nat) (hB : w.heap.size < B) : Sv (w.alloc (.cells cs t)) B (some ⟨w.heap.size, 0, none⟩) cs.toList := by
  intro _
  refine ⟨w.heap.size, 0, rfl, hB, fun i v hv => ?_⟩
  rw [Nat.zero_add]
  have := cell_of_row (w.alloc (.cells cs t)) w.heap.size i cs t (0, 0) (heap_alloc_new w _)
  rw [this]
  simpa using hv

theorem may4 : May [37, 15293, 494878333, 151288809941952652] := by
  intro i n h
  match i, h with
  | 0, h => simp at h; omega
  | 1, h => simp at h; omega
  | 2, h => simp at h; omega
  | 3, h => simp at h; omega
  | i + 4, h => simp at h

theorem encs4 : encs [37, 15293, 494878333, 151288809941952652] = [37, 123, 189, 157, 127, 62, 125, 194, 25, 124, 94, 255, 20, 232, 140] := by decide +kernel

theorem size63 (w : World) : Calls Tryd.prog 11 #[.int .u64 63] w fun e w' => e = .returned (.int .i64 1) ∧ w = w' :=
  (size_any 63 w).mono fun e w' ⟨he, hw⟩ => ⟨by rw [he, show szN 63 = 1 by decide]; rfl, hw⟩
theorem size64 (w : World) : Calls Tryd.prog 11 #[.int .u64 64] w fun e w' => e = .returned (.int .i64 2) ∧ w = w' :=
  (size_any 64 w).mono fun e w' ⟨he, hw⟩ => ⟨by rw [he, show szN 64 = 2 by decide]; rfl, hw⟩
theorem size62 (w : World) : Calls Tryd.prog 11 #[.int .u64 4611686018427387904] w fun e w' => e = .returned (.int .i64 0) ∧ w = w' :=
  (size_any 4611686018427387904 w).mono fun e w' ⟨he, hw⟩ => ⟨by rw [he, show szN 4611686018427387904 = 0 by decide]; rfl, hw⟩

set_option maxRecDepth 10000 in
set_option maxHeartbeats 800000 in
theorem known_any (w : World) (hT : Tab w) : Calls Tryd.prog 6 #[] w fun e w' => e = .returned (.bool true) ∧ Below w.heap.size w w' := by
  go_enter Tryd.func6, Tryd.ntmps6
  go_wp2_with fail
  have hT1 : ∀ o, Tab (w.alloc o) := fun o => hT.below ((Below.refl _ _).alloc (Nat.le_refl _) o) hT.lt
  refine (append_ok none 0 0 _ 4 4 [] [37, 15293, 494878333, 151288809941952652] _ (w.heap.size + 1) rfl (Sv.nil _ _ _) rfl (sv_block w _ _ _ (by omega)) (by simp) (by omega) (by omega) may4 (hT1 _)).mono ?_
  rintro e w1 ⟨A1, c1, rfl, p1, p2, hown1, hb1⟩
  rw [List.nil_append, encs4] at hown1 p1 ⊢
  have hbw1 : Below w.heap.size w w1 := ((Below.refl _ _).alloc (Nat.le_refl _) _).trans (hb1.mono (by simp))
  have hstr := run_string_sl (P := Tryd.prog) w1 22 9 5 Tryd.underlying22 Tryd.underlying5 Tryd.underlying9 _ A1 15 c1 _ (Sv.of_own hown1) rfl
  have hlit : strB [37, 123, 189, 157, 127, 62, 125, 194, 25, 124, 94, 255, 20, 232, 140] = { data := #[37, 123, 189, 157, 127, 62, 125, 194, 25, 124, 94, 255, 20, 232, 140] } := rfl
  rw [hlit] at hstr
  clear hlit
  have HO1 := Lib.hid hown1
  clear hown1 hb1 p1 p2
  go_wp2_with fail
  clear hstr
  have hs2 : Sl (w1.alloc (.cells #[.int .u8 64, .int .u8 37] 5)) (w1.heap.size + 1) (some ⟨w1.heap.size, 0, none⟩) [64, 37] := sv_block w1 #[.int .u8 64, .int .u8 37] _ _ (by omega)
  have hb2 : Below w.heap.size w (w1.alloc (.cells #[.int .u8 64, .int .u8 37] 5)) := hbw1.alloc hbw1.size _
  generalize w1.alloc (.cells #[.int .u8 64, .int .u8 37] 5) = w2 at *
  refine (take_some (l := [64, 37]) (n := 37) (k := 2) (by decide +kernel) _ 2 2 _ (w1.heap.size + 1) rfl hs2 (by omega) (by unfold maxLen; omega)).mono ?_
  rintro e w' ⟨rfl, rfl⟩
  clear hs2
  go_wp2_with fail
  have hs3 : Sl (w2.alloc (.cells #[.int .u8 123] 5)) (w2.heap.size + 1) (some ⟨w2.heap.size, 0, none⟩) [123] := sv_block w2 #[.int .u8 123] _ _ (by omega)
  have hb3 : Below w.heap.size w (w2.alloc (.cells #[.int .u8 123] 5)) := hb2.alloc hb2.size _
  generalize w2.alloc (.cells #[.int .u8 123] 5) = w3 at *
  refine (take_none (l := [123]) (by decide +kernel) _ 1 1 _ (w2.heap.size + 1) rfl hs3).mono ?_
  rintro e w' ⟨rfl, rfl⟩
  clear hs3
  go_wp2_with fail
  refine (take_none (l := []) rfl none 0 0 _ 0 rfl (Sv.nil _ _ _)).mono ?_
  rintro e w' ⟨rfl, rfl⟩
  go_wp2_with fail
  have hs4 : Sl (w3.alloc (.cells #[.int .u8 2, .int .u8 5, .int .u8 6, .int .u8 7] 5)) (w3.heap.size + 1) (some ⟨w3.heap.size, 0, none⟩) [2, 5, 6, 7] := sv_block w3 #[.int .u8 2, .int .u8 5, .int .u8 6, .int .u8 7] _ _ (by omega)
  have hb4 : Below w.heap.size w (w3.alloc (.cells #[.int .u8 2, .int .u8 5, .int .u8 6, .int .u8 7] 5)) := hb3.alloc hb3.size _
  have hz4 : w3.heap.size + 1 ≤ (w3.alloc (.cells #[.int .u8 2, .int .u8 5, .int .u8 6, .int .u8 7] 5)).heap.size := by simp
  generalize w3.alloc (.cells #[.int .u8 2, .int .u8 5, .int .u8 6, .int .u8 7] 5) = w4 at *
  refine (vbytes_some (l := [2, 5, 6, 7]) (m := [5, 6]) (u := 3) (by decide +kernel) _ 4 4 _ (w3.heap.size + 1) rfl hs4 (by omega) (by unfold maxLen; omega) (by omega) hz4).mono ?_
  rintro e w5 ⟨A5, c5, rfl, _, _, hown5, hb45⟩
  have hb5 : Below w.heap.size w w5 := hb4.trans (hb45.mono hb4.size)
  have hsl5 : Sl w5 w5.heap.size A5 [5, 6] := Sv.of_own hown5
  clear hs4 hz4 hown5 hb45
  have HSL5 := Lib.hid hsl5
  clear hsl5
  go_wp2_with fail
  have hs6 : Sl (w5.alloc (.cells #[.int .u8 3, .int .u8 5, .int .u8 6] 5)) (w5.heap.size + 1) (some ⟨w5.heap.size, 0, none⟩) [3, 5, 6] := sv_block w5 #[.int .u8 3, .int .u8 5, .int .u8 6] _ _ (by omega)
  have hb6 : Below w.heap.size w (w5.alloc (.cells #[.int .u8 3, .int .u8 5, .int .u8 6] 5)) := hb5.alloc hb5.size _
  have hsl6 : Sl (w5.alloc (.cells #[.int .u8 3, .int .u8 5, .int .u8 6] 5)) w5.heap.size A5 [5, 6] := HSL5.out.keep (Nat.le_refl _) (fun p hp => World.cell?_alloc_lt w5 _ p hp)
  generalize w5.alloc (.cells #[.int .u8 3, .int .u8 5, .int .u8 6] 5) = w6 at *
  refine (vbytes_none (l := [3, 5, 6]) (by decide +kernel) _ 3 3 _ (w5.heap.size + 1) rfl hs6 (by omega) (by unfold maxLen; omega)).mono ?_
  rintro e w' ⟨rfl, rfl⟩
  clear hs6
  have hstr := run_string_sl (P := Tryd.prog) w6 22 9 5 Tryd.underlying22 Tryd.underlying5 Tryd.underlying9 _ A5 2 c5 _ hsl6 rfl
  have hlit : strB [5, 6] = { data := #[5, 6] } := rfl
  rw [hlit] at hstr
  clear hlit hsl6
  go_wp2_with fail
  refine (size63 _).mono ?_
  rintro e w' ⟨rfl, rfl⟩
  go_wp2_with fail
  refine (size64 _).mono ?_
  rintro e w' ⟨rfl, rfl⟩
  go_wp2_with fail
  refine (size62 _).mono ?_
  rintro e w' ⟨rfl, rfl⟩
  go_wp2_with fail
  go_ret
  exact ⟨rfl, hb6⟩

end Go.Proofs.YtbkdjnppgdjnaaaDoor
