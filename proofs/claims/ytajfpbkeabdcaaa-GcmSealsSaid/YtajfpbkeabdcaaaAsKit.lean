/-
  Words for rows of bytes in memory: arrays of 16 bytes, of eleven such arrays, and byte slices of the call's own.
-/
import Derived.IntWalk
import Derived.KernelRfl
import Derived.OwnWalk
import Derived.WalkSpells
import Derived.WalkLawsBesides
import Derived.Deep.QuietTactic
import Derived.BigQuiet
import Derived.Deep.DeepCutAuto
import Derived.Deep.RegionLaw
import Derived.Deep.RegionWith
import Derived.Deep.WholeRow
import Derived.Deep.MidRow
import Derived.Laws.CopyOwn
import Derived.Test.YtajfpbkeabdcaaaWhS
import Derived.Test.YtajfpbkeabdcaaaAsSub
namespace Go.Proofs.Ytajfpbkeabdcaaa
open Go.RowKit
set_option linter.unusedVariables false

/-- A row of bytes in memory. -/
def aRow (l : List UInt8) : Array Value := (l.map cell8).toArray
theorem aRow_set (l : List UInt8) (j : Nat) (x : UInt8) : (aRow l).setIfInBounds j (.int .u8 (x.toNat : Int)) = aRow (l.set j x) := by simp [aRow, cell8]
theorem aRow_size (l : List UInt8) : (aRow l).size = l.length := by simp [aRow]
theorem aRow_one (l : List UInt8) : (aRow l).all (·.oneCell') = true := by
  rw [Array.all_eq_true_iff_forall_mem]
  intro v hv
  simp only [aRow, List.mem_toArray] at hv
  obtain ⟨x, _, rfl⟩ := List.mem_map.1 hv
  rfl
theorem aRow_at {l : List UInt8} {k : Nat} (hk : k < l.length) : (aRow l)[k]? = some (.int .u8 ((l.getD k 0).toNat : Int)) := by
  simp [aRow, List.getD, hk, cell8]
theorem aRow_list (l : List UInt8) : (aRow l).toList = l.map cell8 := by simp [aRow]
theorem info_a16 : (Try.prog.info? 22).map (·.size) = some 16 := by kernel_rfl
theorem info_aRow {l : List UInt8} (h : l.length = 16) : (Try.prog.info? 22).map (·.size) = some (aRow l).size := by rw [aRow_size, h]; exact info_a16
theorem below_grown {B g : Nat} {a b c : World} (h : Below B a b) (k : b.grownBy c (some g)) (hg : B ≤ g) (hB : B ≤ b.heap.size) : Below B a c :=
  ⟨k.os.trans h.os, k.tape.trans h.tape, k.output.trans h.output, Nat.le_trans h.size k.size, fun i hi => (k.block i (by omega) (fun e => by have := Option.some.inj e; omega)).trans (h.block i hi)⟩
theorem zeros16 : (#[.int .u8 0, .int .u8 0, .int .u8 0, .int .u8 0, .int .u8 0, .int .u8 0, .int .u8 0, .int .u8 0, .int .u8 0, .int .u8 0, .int .u8 0, .int .u8 0, .int .u8 0, .int .u8 0, .int .u8 0, .int .u8 0] : Array Value) = aRow (List.replicate 16 0) := by kernel_rfl

/-- What two, three blocks that were just made hold. -/
theorem made2 (w : World) (r s : Array Value) (T U : TypeId) : Below w.heap.size w ((w.alloc (.cells r T)).alloc (.cells s U)) ∧ Wh ((w.alloc (.cells r T)).alloc (.cells s U)) w.heap.size T r ∧ Wh ((w.alloc (.cells r T)).alloc (.cells s U)) (w.heap.size + 1) U s := by
  refine ⟨((Below.refl _ _).alloc (Nat.le_refl _) _).alloc (by simp) _, (Wh.new _ _ _).alloc _, ?_⟩
  have := Wh.new (w.alloc (.cells r T)) U s
  rwa [show (w.alloc (.cells r T)).heap.size = w.heap.size + 1 by simp] at this
theorem made3 (w : World) (r s q : Array Value) (T U V : TypeId) : Below w.heap.size w (((w.alloc (.cells r T)).alloc (.cells s U)).alloc (.cells q V)) ∧ Wh (((w.alloc (.cells r T)).alloc (.cells s U)).alloc (.cells q V)) w.heap.size T r ∧ Wh (((w.alloc (.cells r T)).alloc (.cells s U)).alloc (.cells q V)) (w.heap.size + 1) U s ∧ Wh (((w.alloc (.cells r T)).alloc (.cells s U)).alloc (.cells q V)) (w.heap.size + 1 + 1) V q := by
  obtain ⟨h1, h2, h3⟩ := made2 w r s T U
  refine ⟨h1.alloc h1.size _, h2.alloc _, h3.alloc _, ?_⟩
  have := Wh.new ((w.alloc (.cells r T)).alloc (.cells s U)) V q
  rwa [show ((w.alloc (.cells r T)).alloc (.cells s U)).heap.size = w.heap.size + 1 + 1 by simp] at this

/-- A byte of an array by value. -/
theorem idx16 (l : List UInt8) (n : Nat) (w : World) (hl : l.length = 16) (hn : n < 16) : (Instr.index 22 (.agg (aRow l)) (.int .i64 (n : Int))).run Try.prog w = .ok (.int .u8 ((l.getD n 0).toNat : Int)) w := by
  have h1 : n < l.length := by omega
  have h2 : (sizeOf 5).run Try.prog w = .ok 1 w := by rfl
  have h4 : (part 5 (aRow l) n).run Try.prog w = .ok (.int .u8 ((l.getD n 0).toNat : Int)) w := by
    have h5 : (isAgg 5).run Try.prog w = .ok false w := by rfl
    simp [part, h5, aRow, h1, cell8, List.getD]
  have h3 : (0 : Int) ≤ (n : Int) ∧ (n : Int) < 16 := by omega
  simp [Instr.index, asIntOf, run_underlying Try.underlying22, h2, hn, h4]

/-- A byte's row of the table of types. -/
theorem info8 : (Try.prog.info? 5).map (fun i => (i.zero, i.size, i.bytes)) = some (some (.int .u8 0), 1, 1) := by kernel_rfl

/-- Bytes in memory of their own. -/
def GaveO (w : World) (l : List UInt8) (e : Ending) (w' : World) : Prop :=
  ∃ A' c', e = .returned (.slice A' l.length c') ∧ l.length ≤ c' ∧ c' ≤ maxLen ∧ w'.ownsRow w.heap.size 5 1 (.slice A' l.length c') l.length (l.map cell8) ∧ Below w.heap.size w w'

theorem rsub_i (n : Nat) (w : World) (h : n < 256) :
    Calls Try.prog 30 #[.int .u8 (n : Int)] w fun e w' => e = .returned (.int .u8 ((oT.getD n 0).toNat : Int)) ∧ w = w' := by
  have := rsub_any (UInt8.ofNat n) w
  have e : (UInt8.ofNat n).toNat = n := by simp; omega
  rw [sB, e] at this
  exact this

set_option maxRecDepth 100000 in
set_option maxHeartbeats 400000 in
theorem box_any (w : World) : Calls Try.prog 16 #[] w (GaveO w oT) := by
  obtain ⟨i0, hi0, hz0, hz1, hz2⟩ := info_parts info8
  have HOL := Deep.mk oT_len
  obtain ⟨L, hL⟩ : ∃ L, L = oT := ⟨_, rfl⟩
  rw [← hL] at HOL ⊢
  have HL := Deep.mk hL
  clear hL
  go_enter Try.func16, Try.ntmps16
  go_wp2
  go_loopw [1, 2] (fun v i wr => ∃ k : Nat, k ≤ 256 ∧ i = .int .i64 (k : Int) ∧ Hid (wr.ownsRow w.heap.size 5 1 v k ((L.take k).map cell8)) ∧ Hid (Below w.heap.size w wr)) (fun _ i _ => 256 - (intOf i).toNat)
  case atStart => exact ⟨0, by omega, rfl, Lib.hid (World.ownsRow_nil _ _ _ 1), Lib.hid (Below.refl _ _)⟩
  case round =>
    obtain ⟨k, hk, rfl, HO, HB⟩ := hrel
    by_cases hlt : k < 256
    · have hbz := HB.out.size
      have hown := HO.out
      go_wp2_with (first
        | (go_at_call 30; refine (rsub_i k _ hlt).mono ?_; rintro e w1 ⟨rfl, rfl⟩)
        | (at_builtin; refine wpList_append_sv _ rfl (.tmp 7) (.tmp 11) _ rfl w.heap.size 5 i0 _ 1 Try.underlying24 hi0 hz0 hz1 hz2 rfl u1 _ _ rfl (hown.alloc _) _ _ 1 1 _ rfl (sv_new _ _ _) rfl (fun u hu => by simp at hu; subst hu; rfl) (by unfold maxLen; omega) (by omega) (by simp; omega) ?_; intro v2 w2 hown2 hg2 _; have HB2 := Lib.hid ((HB.out.alloc hbz _).grown hg2 (by simp; omega) (fun q hq => (HO.out.lt q hq).1)); clear hg2))
      have HO2 : Hid (w2.ownsRow w.heap.size 5 1 v2 (k + 1) ((L.take (k + 1)).map cell8)) := by
        have e : L[k]? = some (L.getD k 0) := by
          have : k < L.length := by rw [HOL.out]; exact hlt
          simp [List.getD, this]
        rw [take_next L k _ e, List.map_append, HL.out]
        rw [HL.out] at hown2
        exact Lib.hid hown2
      clear hown2 hown hbz
      go_roundw
      case rel => exact ⟨k + 1, by omega, by go_num, HO2, HB2⟩
      case measure => simp [intOf]; omega
    · have hkd : decide ((k : Int) < 256) = false := by rw [decide_eq_false_iff_not]; omega
      obtain ⟨A, c, rfl, h1, h2⟩ := own_form HO.out
      have H1 := Lib.hid h1
      have H2 := Lib.hid h2
      have HK : Deep (k = 256) := ⟨by omega⟩
      clear hlt h1 h2
      go_wp2
      go_ret
      have hO := HO.out
      rw [List.take_of_length_le (by rw [HOL.out, HK.out]; exact Nat.le_refl _)] at hO
      have hret : Ending.returned (.slice A k c) = Ending.returned (.slice A 256 c) := by rw [HK.out]
      refine ⟨A, c, by rw [HOL.out]; exact hret, by rw [HOL.out, ← HK.out]; exact H1.out, H2.out, by rw [HOL.out, ← HK.out]; exact hO, HB.out⟩

end Go.Proofs.Ytajfpbkeabdcaaa
