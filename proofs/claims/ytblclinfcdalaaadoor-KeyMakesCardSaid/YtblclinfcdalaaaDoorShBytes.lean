/-
  sha.state's bytes.
-/
import Derived.IntWalk
import Derived.Deep.DeepCutAuto
import Derived.Deep.WholeRow
import Derived.Laws.CopyOwn
import Derived.Test.YtblclinfcdalaaaDoorShEnd
namespace Go.Proofs.YtblclinfcdalaaaDoor
open Go.RowKit
set_option linter.unusedVariables false

/-- Bytes in memory. -/
def bRow (l : List UInt8) : Array Value := (l.map cell8).toArray
theorem bRow_size (l : List UInt8) : (bRow l).size = l.length := by simp [bRow]
theorem bRow_one (l : List UInt8) : (bRow l).all (·.oneCell') = true := by
  rw [Array.all_eq_true_iff_forall_mem]
  intro v hv
  simp only [bRow, List.mem_toArray] at hv
  obtain ⟨x, _, rfl⟩ := List.mem_map.1 hv
  rfl
theorem info_b32 : (Tryd.prog.info? 22).map (·.size) = some 32 := by kernel_rfl
theorem info_bRow {l : List UInt8} (h : l.length = 32) : (Tryd.prog.info? 22).map (·.size) = some (bRow l).size := by rw [bRow_size, h]; exact info_b32
theorem zeros32 : (#[.int .u8 0, .int .u8 0, .int .u8 0, .int .u8 0, .int .u8 0, .int .u8 0, .int .u8 0, .int .u8 0, .int .u8 0, .int .u8 0, .int .u8 0, .int .u8 0, .int .u8 0, .int .u8 0, .int .u8 0, .int .u8 0, .int .u8 0, .int .u8 0, .int .u8 0, .int .u8 0, .int .u8 0, .int .u8 0, .int .u8 0, .int .u8 0, .int .u8 0, .int .u8 0, .int .u8 0, .int .u8 0, .int .u8 0, .int .u8 0, .int .u8 0, .int .u8 0] : Array Value) = bRow (List.replicate 32 0) := by kernel_rfl

/-- The row while it is filled. -/
def midB (l : List UInt8) (k : Nat) : List UInt8 := l.take k ++ List.replicate (32 - k) 0
theorem midB_set (l : List UInt8) (k : Nat) (hk : k < 32) (hl : l.length = 32) : (midB l k).set k (l.getD k 0) = midB l (k + 1) := by
  have h1 : (l.take k).length = k := by rw [List.length_take]; omega
  rw [midB, List.set_append_right _ _ (by omega), h1, Nat.sub_self, show 32 - k = (32 - (k + 1)) + 1 by omega, List.replicate_succ, List.set_cons_zero, midB]
  rw [List.take_succ_eq_append_getElem (by omega), List.append_assoc]
  simp [List.getD, hl, hk]
theorem midB_len (l : List UInt8) (k : Nat) (hk : k ≤ 32) (hl : l.length = 32) : (midB l k).length = 32 := by
  simp [midB]; omega

set_option maxRecDepth 100000 in
set_option maxHeartbeats 400000 in
theorem bytes_any (g : Nat) (s : S8) (w : World) (hg : g < w.heap.size) (hs : ∀ j, j < 8 → w.cell? ⟨g, j, none⟩ = some (.int .u32 (wi (s.l.getD j 0)))) :
    Calls Tryd.prog 99 #[.pointer (some ⟨g, 0, none⟩)] w fun e w' => e = .returned (.agg (bRow (bytesS s))) ∧ Below w.heap.size w w' := by
  have hbe : Below w.heap.size w ((w.alloc (.cells (bRow (List.replicate 32 0)) 22)).alloc (.cells (bRow (List.replicate 32 0)) 22)) := ((Below.refl _ _).alloc (Nat.le_refl _) _).alloc (by simp) _
  have h2 : Wh ((w.alloc (.cells (bRow (List.replicate 32 0)) 22)).alloc (.cells (bRow (List.replicate 32 0)) 22)) w.heap.size 22 (bRow (List.replicate 32 0)) := (Wh.new _ _ _).alloc _
  have h3 : Wh ((w.alloc (.cells (bRow (List.replicate 32 0)) 22)).alloc (.cells (bRow (List.replicate 32 0)) 22)) (w.heap.size + 1) 22 (bRow (List.replicate 32 0)) := by
    have := Wh.new (w.alloc (.cells (bRow (List.replicate 32 0)) 22)) 22 (bRow (List.replicate 32 0))
    rwa [show (w.alloc (.cells (bRow (List.replicate 32 0)) 22)).heap.size = w.heap.size + 1 by simp] at this
  have HC := Lib.hid (fun j (h : j < 8) => (hbe.cell (p := ⟨g, j, none⟩) hg).trans (hs j h))
  clear hs
  go_enter Tryd.func99, Tryd.ntmps99
  go_upto_region 2 with (fail)
  rw [zeros32]
  generalize (w.alloc (.cells (bRow (List.replicate 32 0)) 22)).alloc (.cells (bRow (List.replicate 32 0)) 22) = W at *
  obtain ⟨r, hr⟩ : ∃ r, r = w.heap.size := ⟨_, rfl⟩
  obtain ⟨q, hq⟩ : ∃ q, q = w.heap.size + 1 := ⟨_, rfl⟩
  rw [← hr] at h2
  rw [← hq] at h3
  rw [← hq, ← hr]
  have HQ := Lib.hid hq
  have HR := Lib.hid hr
  have H2 := Lib.hid h2
  have hgW : g < W.heap.size := by have := hbe.size; omega
  have hgr : g < r := by omega
  have hrq : r < q := by omega
  have H3 := Lib.hid h3
  clear hq hr h2 h3
  go_wp2
  go_loopw [4, 5] (fun _ i wr => ∃ k : Nat, k ≤ 32 ∧ i = .int .i64 (k : Int) ∧ Hid (Wh wr q 22 (bRow (midB (bytesS s) k))) ∧ Hid (W.grownBy wr (some q))) (fun _ i _ => 32 - (intOf i).toNat)
  case atStart => exact ⟨0, by omega, rfl, H3, Lib.hid (World.grownBy.refl _ _)⟩
  case round =>
    obtain ⟨k, hk, rfl, HW, HGr⟩ := hrel
    by_cases hlt : k < 32
    · have hx : wr.cell? ⟨g, k / 4, none⟩ = some (.int .u32 (wi (s.l.getD (k / 4) 0))) := by
        rw [World.cell?_of_block (HGr.out.block g hgW (fun e => by have := Option.some.inj e; omega))]
        exact HC.out (k / 4) (by omega)
      have hu : ∃ u, wr.cell? ⟨q, k, none⟩ = some (.int .u8 u) := by
        have h1 : k < (midB (bytesS s) k).length := by rw [midB_len _ k hk (bytesS_len s)]; exact hlt
        refine ⟨(((midB (bytesS s) k)[k]).toNat : Int), ?_⟩
        rw [HW.out.cell, bRow, List.getElem?_toArray, List.getElem?_map, List.getElem?_eq_getElem h1]
        rfl
      obtain ⟨u, hu⟩ := hu
      have hf := HW.out.frozen k
      have hby := bytesS_at s k hlt
      have hst := midB_set (bytesS s) k hlt (bytesS_len s)
      rw [hby] at hst
      have HST := Deep.mk hst
      clear hby hst
      obtain ⟨x, hxx⟩ : ∃ x, x = s.l.getD (k / 4) 0 := ⟨_, rfl⟩
      rw [← hxx] at hx HST
      clear hxx
      have k1 : (0 : Int) ≤ 8 * (3 - (k : Int) % 4) := by omega
      have k2 : 8 * (3 - (k : Int) % 4) ≤ 32 := by omega
      go_wp2
      refine ⟨⟨k + 1, by omega, rfl, ?_, Lib.hid (grown_trans HGr.out (grown_set _ _ _ _))⟩, by simp [intOf]; omega⟩
      have h := HW.out.put k (.int .u8 (wi x / 2 ^ (8 * (3 - k % 4)) % 256))
      have hv : Value.int .u8 (wi x / 2 ^ (8 * (3 - k % 4)) % 256) = cell8 (byteW x (3 - k % 4)) := be_cell x.toNat (3 - k % 4)
      rw [hv, bRow, List.setIfInBounds_toArray, ← List.map_set, HST.out] at h
      rw [hv]
      exact Lib.hid h
    · obtain ⟨HB, HS⟩ : Hid (Wh wr q 22 (bRow (bytesS s))) ∧ Hid (Wh wr r 22 (bRow (List.replicate 32 0))) := by
        have h := HW.out
        have hk32 : k = 32 := by omega
        rw [hk32, midB, show 32 - 32 = 0 from rfl, List.replicate_zero, List.append_nil, List.take_of_length_le (by rw [bytesS_len]; exact Nat.le_refl _)] at h
        exact ⟨Lib.hid h, Lib.hid (H2.out.grown HGr.out (by intro e; have := Option.some.inj e; omega))⟩
      have hBe := Lib.hid (below_grown hbe HGr.out (by rw [HQ.out]; omega) hbe.size)
      have hwr : w.heap.size ≤ r := by rw [HR.out]; exact Nat.le_refl _
      have htd : decide ((k : Int) < 32) = false := by rw [decide_eq_false_iff_not]; omega
      clear HW HGr hlt hk hbe H3 H2 HC
      go_wp2_with (first
        | (refine wpList_load_row rfl 22 (.tmp 3) rfl q rfl _ (bRow (bytesS s)) _ _ HB.out Tryd.underlying22 rfl (info_bRow (bytesS_len s)) ?_)
        | (refine wpList_store_row rfl 22 (.tmp 2) (.tmp 23) rfl r (bRow (bytesS s)) rfl rfl _ _ HS.out (info_bRow (bytesS_len s)) (by rw [bRow_size, bRow_size, bytesS_len]; rfl) (bRow_one _) ?_))
      refine bodyPost_ret (v := .agg (bRow (bytesS s))) (results_cell_row Tryd.results99 _ _ r _ _ (0, 0) _ rfl (setRow_heap wr r _ _ _ _ HS.out) Tryd.underlying22 rfl (info_bRow (bytesS_len s))) rfl ?_
      exact ⟨rfl, below_setRow hBe.out hwr _⟩
end Go.Proofs.YtblclinfcdalaaaDoor
