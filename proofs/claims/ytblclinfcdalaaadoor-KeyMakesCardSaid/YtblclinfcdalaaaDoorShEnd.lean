/-
  sha.first, sha.ending: the state at first; what stands behind a text.
-/
import Derived.IntWalk
import Derived.WalkSpells
import Derived.WalkLawsBesides
import Derived.Deep.DeepCutAuto
import Derived.Laws.CopyOwn
import Derived.Test.YtblclinfcdalaaaDoorShMake
import Derived.Test.YtblclinfcdalaaaDoorShText
import Derived.Test.YtblclinfcdalaaaDoorShSch
namespace Go.Proofs.YtblclinfcdalaaaDoor
open Go.RowKit
set_option linter.unusedVariables false

theorem info_w8 : (Tryd.prog.info? 133).map (·.size) = some 8 := by kernel_rfl

set_option maxRecDepth 100000 in
set_option maxHeartbeats 400000 in
theorem first_any (w : World) : Calls Tryd.prog 96 #[] w fun e w' => e = .returned (.agg (wRow initS.l)) ∧ Below w.heap.size w w' := by
  go_enter Tryd.func96, Tryd.ntmps96
  go_wp2
  refine bodyPost_ret (v := .agg (wRow initS.l)) (by simp [results, Tryd.results96, go_sem]; rfl) rfl ⟨rfl, (Below.refl _ _).alloc (Nat.le_refl _) _⟩

theorem first_lit (w : World) : Calls Tryd.prog 96 #[] w fun e w' => e = .returned (.agg #[.int .u32 1779033703, .int .u32 3144134277, .int .u32 1013904242, .int .u32 2773480762, .int .u32 1359893119, .int .u32 2600822924, .int .u32 528734635, .int .u32 1541459225]) ∧ Below w.heap.size w w' := first_any w

/-- A byte's row of the table of types. -/
theorem info8 : (Tryd.prog.info? 5).map (fun i => (i.zero, i.size, i.bytes)) = some (some (.int .u8 0), 1, 1) := by kernel_rfl

/-- Bytes in memory of their own. -/
def GaveB (w : World) (l : List UInt8) (e : Ending) (w' : World) : Prop :=
  ∃ A' c', e = .returned (.slice A' l.length c') ∧ l.length ≤ c' ∧ c' ≤ maxLen ∧ w'.ownsRow w.heap.size 5 1 (.slice A' l.length c') l.length (l.map cell8) ∧ Below w.heap.size w w'

/-- The row of an ending while nothing but its first byte is laid. -/
def zRowE (n : Nat) : Array Value := (Array.replicate n (Value.int .u8 0)).setIfInBounds 0 (.int .u8 128)
theorem zrow_set (z n : Nat) (hn : n = z + 1 + 8) : zRowE n = (.int .u8 128 :: List.replicate (z + 8) (Value.int .u8 0)).toArray := by
  subst hn
  rw [zRowE, ← List.toArray_replicate, List.setIfInBounds_toArray, show z + 1 + 8 = (z + 8) + 1 by omega, List.replicate_succ, List.set_cons_zero]

set_option maxRecDepth 100000 in
set_option maxHeartbeats 400000 in
theorem ending_any (n : Nat) (w : World) (hn : n ≤ 16777216) : Calls Tryd.prog 98 #[.int .u64 (n : Int)] w (GaveB w (endB n)) := by
  obtain ⟨i0, hi0, hz0, hz1, hz2⟩ := info_parts info8
  obtain ⟨z, hz⟩ : ∃ z, z = (119 - n % 64) % 64 := ⟨_, rfl⟩
  have hz63 : z ≤ 63 := by omega
  have HZ := Lib.hid hz
  have hM : (1 : Int) + (119 - (n : Int)) % 64 = ((z + 1 : Nat) : Int) := by omega
  have hN : (9 : Int) + (119 - (n : Int)) % 64 = ((z + 1 + 8 : Nat) : Int) := by omega
  have HM := Lib.hid hM
  have HN := Lib.hid hN
  have hwh : Wh (w.alloc (.cells (zRowE (z + 1 + 8)) 5)) w.heap.size 5 (.int .u8 128 :: List.replicate (z + 8) (Value.int .u8 0)).toArray := by
    rw [zrow_set z _ rfl]
    exact Wh.new w 5 _
  have hown := own_of_wh hwh w.heap.size (z + 1) (z + 1 + 8) (Nat.le_refl _) (by simp) (by omega) (by unfold maxLen; omega)
  have hbe : Below w.heap.size w (w.alloc (.cells (zRowE (z + 1 + 8)) 5)) := (Below.refl _ _).alloc (Nat.le_refl _) _
  have hc0 : (w.alloc (.cells (List.replicate (z + 1 + 8) (.int .u8 0)).toArray 5)).cell? ⟨w.heap.size, 0, none⟩ = some (.int .u8 0) := by
    rw [(Wh.new w 5 _).cell]; simp
  have hf0 : (w.alloc (.cells (List.replicate (z + 1 + 8) (.int .u8 0)).toArray 5)).frozen? ⟨w.heap.size, 0, none⟩ = false := (Wh.new w 5 _).frozen 0
  clear hz hM hN hwh
  have htk : ((.int .u8 128 :: List.replicate (z + 8) (Value.int .u8 0)).take (z + 1)) = ((128 : UInt8) :: List.replicate z 0).map cell8 := by
    simp [cell8]
  rw [htk] at hown
  have HO := Lib.hid hown
  have HB := Lib.hid hbe
  clear htk hown hbe
  go_enter Tryd.func98, Tryd.ntmps98
  go_upto_region 4 with (at_make; (refine wpList_make_mn _ rfl _ _ _ rfl 5 i0 (.int .u8 0) Tryd.underlying23 hi0 hz0 hz1 rfl _ _ _ _ (z + 1) (z + 1 + 8) rfl rfl HM.out HN.out (by omega) (by rw [hz2]; omega) (by omega) ?_))
  clear hc0 hf0
  change Code.wp _ _ _ _ (w.alloc (.cells (zRowE (z + 1 + 8)) 5))
  generalize w.alloc (.cells (zRowE (z + 1 + 8)) 5) = w1 at *
  go_wp2
  go_loopw [4, 6] (fun vb va wr => ∃ (k : Nat) (pre : List UInt8), k ≤ 8 ∧ va = .int .i64 (8 * (k : Int) - 8) ∧ Hid (be (8 * n) 8 = pre ++ be (8 * n) k) ∧ pre.length + k = 8 ∧ wr.ownsRow w.heap.size 5 1 vb (z + 1 + pre.length) (((128 : UInt8) :: List.replicate z 0).map cell8 ++ pre.map cell8) ∧ Below w.heap.size w wr)
    (fun _ va _ => (intOf va + 8).toNat)
  case atStart => exact ⟨8, [], Nat.le_refl _, rfl, Lib.hid rfl, by simp, by simpa using HO.out, HB.out⟩
  case round =>
    obtain ⟨k, pre, hk, rfl, hsplit, hpl, hown1, hbel⟩ := hrel
    have HP := Lib.hid hpl
    by_cases h0 : 1 ≤ k
    · obtain ⟨j, rfl⟩ : ∃ j, k = j + 1 := ⟨k - 1, by omega⟩
      have hp7 : pre.length ≤ 7 := by omega
      clear hpl
      go_wp2_with (at_builtin; refine wpList_append_sv _ rfl _ _ _ rfl w.heap.size 5 i0 _ 1 Tryd.underlying23 hi0 hz0 hz1 hz2 rfl _ _ _ rfl (hown1.alloc _) _ _ 1 1 _ rfl (sv_new _ _ _) rfl (fun u hu => by simp at hu; subst hu; rfl) (by unfold maxLen; omega) (by omega) (by have := hbel.size; simp; omega) ?_; intro v1 w1 hown2 hg2 hat2)
      go_roundw
      case rel =>
        have hb2 : Below w.heap.size w w1 := (hbel.alloc (by have := hbel.size; omega) _).grown hg2 (by have := hbel.size; simp; omega) (fun q hq => (hown1.lt q hq).1)
        have hlen' := HP.out
        refine ⟨j, pre ++ [UInt8.ofNat (8 * n / 256 ^ j % 256)], by omega, by go_num, ?_, by simp; omega, ?_, hb2⟩
        · exact hsplit.out.trans (by simp [be])
        · have hb := be_cell (8 * n) j
          rw [show ((8 * n : Nat) : Int) = 8 * (n : Int) by omega] at hb
          rw [show 8 * (j + 1) - 8 = 8 * j by omega, hb] at hown2
          rw [List.length_append, List.length_singleton, List.map_append, ← Nat.add_assoc, ← List.append_assoc]
          exact hown2
      case measure => simp [intOf]; omega
    · obtain rfl : k = 0 := by omega
      go_wp2
      have he : be (8 * n) 8 = pre := by have := hsplit.out; simpa [be] using this
      obtain ⟨A, c, rfl, hc1, hc2⟩ := own_form hown1
      go_ret
      have hE : endB n = ((128 : UInt8) :: List.replicate z 0) ++ pre := by rw [endB, he, ← HZ.out]; rfl
      have hEl : (endB n).length = z + 1 + pre.length := by rw [hE]; simp; omega
      refine ⟨A, c, by rw [hEl]; rfl, by omega, hc2, ?_, hbel⟩
      rw [hEl, hE, List.map_append]
      exact hown1
end Go.Proofs.YtblclinfcdalaaaDoor
