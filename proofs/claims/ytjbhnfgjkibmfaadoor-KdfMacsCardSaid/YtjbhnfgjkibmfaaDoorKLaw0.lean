/-
  hostlerlaw07's same and rise: bytes of one kind, bytes from one on.
-/
import Derived.Test.YtjbhnfgjkibmfaaDoorKRLab
namespace Go.Proofs.YtjbhnfgjkibmfaaDoor
open Go.RowKit
set_option linter.unusedVariables false

def fillC (x : UInt8) (n k : Nat) : List UInt8 := List.replicate k x ++ List.replicate (n - k) 0
theorem fillC_len (x : UInt8) (n k : Nat) (h : k ≤ n) : (fillC x n k).length = n := by simp [fillC]; omega
theorem fillC_set (x : UInt8) (n k : Nat) (h : k < n) : (fillC x n k).set k x = fillC x n (k + 1) := by
  rw [fillC, List.set_append_right _ _ (by simp), List.length_replicate, Nat.sub_self, show n - k = (n - (k + 1)) + 1 by omega, List.replicate_succ, List.set_cons_zero, fillC, List.replicate_succ', List.append_assoc]
  rfl

set_option maxRecDepth 100000 in
set_option maxHeartbeats 400000 in
theorem same_any (x : UInt8) (n : Nat) (w : World) (hn : n ≤ 1000) :
    Calls Tryd.prog 17 #[.int .u8 (x.toNat : Int), .int .i64 (n : Int)] w (GaveB w (List.replicate n x)) := by
  obtain ⟨i0, hi0, hz0, hz1, hz2⟩ := info_parts info8
  have hw : Wh (w.alloc (.cells (Array.replicate n (.int .u8 0)) 5)) w.heap.size 5 (bRow (fillC x n 0)) := by
    have h := Wh.new w 5 (Array.replicate n (.int .u8 0))
    have e : (Array.replicate n (Value.int .u8 0)) = bRow (fillC x n 0) := by
      rw [← List.toArray_replicate, bRow]
      simp [fillC, cell8]
    rw [← e]
    exact h
  have hb : Below w.heap.size w (w.alloc (.cells (Array.replicate n (.int .u8 0)) 5)) := (Below.refl _ _).alloc (Nat.le_refl _) _
  have HW := Lib.hid hw
  have HB := Lib.hid hb
  clear hw hb
  go_enter Tryd.func17, Tryd.ntmps17
  go_upto_region 2 with (at_make; (refine wpList_make_mn _ rfl _ _ _ rfl 5 i0 (.int .u8 0) Tryd.underlying22 hi0 hz0 hz1 rfl _ _ _ _ n n rfl rfl rfl rfl (by omega) (by rw [hz2]; omega) (by omega) ?_))
  generalize w.alloc (.cells (Array.replicate n (.int .u8 0)) 5) = W at *
  obtain ⟨g, hg⟩ : ∃ g, g = w.heap.size := ⟨_, rfl⟩
  rw [← hg] at HW
  rw [← hg]
  have HG := Lib.hid hg
  have hgw : w.heap.size ≤ g := by omega
  clear hg
  go_wp2
  go_loopw [6, 11] (fun _ i wr => ∃ k : Nat, k ≤ n ∧ i = .int .i64 (k : Int) ∧ Hid (Wh wr g 5 (bRow (fillC x n k))) ∧ Hid (Below w.heap.size w wr)) (fun _ i _ => n - (intOf i).toNat)
  case atStart => exact ⟨0, by omega, rfl, HW, HB⟩
  case round =>
    clear HW HB
    obtain ⟨k, hk, rfl, HWk, HBk⟩ := hrel
    by_cases hlt : k < n
    · have hu : ∃ u, wr.cell? ⟨g, k, none⟩ = some (.int .u8 u) := by
        have h1 : k < (fillC x n k).length := by rw [fillC_len x n k hk]; exact hlt
        refine ⟨(((fillC x n k)[k]).toNat : Int), ?_⟩
        rw [HWk.out.cell, bRow, List.getElem?_toArray, List.getElem?_map, List.getElem?_eq_getElem h1]
        rfl
      obtain ⟨u, hu⟩ := hu
      have hf := HWk.out.frozen k
      have t1 : decide (k < n) = true := decide_eq_true hlt
      have t1' : decide ((k : Int) < (n : Int)) = true := decide_eq_true (by omega)
      go_wp2
      refine ⟨⟨k + 1, by omega, by go_num, ?_, Lib.hid (HBk.out.trans (below_set _ _ _ _ _ hgw))⟩, by simp [intOf]; omega⟩
      have h := HWk.out.put k (cell8 x)
      rw [bRow, List.setIfInBounds_toArray, ← List.map_set, fillC_set x n k hlt] at h
      exact Lib.hid h
    · have hkn : k = n := by omega
      have h := HWk.out
      rw [hkn, fillC, Nat.sub_self, List.replicate_zero, List.append_nil] at h
      have ho := own_of_wh (l := (List.replicate n x).map cell8) h w.heap.size n n hgw (by simp) (Nat.le_refl _) (by unfold maxLen; omega)
      rw [List.take_of_length_le (by simp)] at ho
      have HO := Lib.hid ho
      have t1 : decide (k < n) = false := decide_eq_false hlt
      have t1' : decide ((k : Int) < (n : Int)) = false := decide_eq_false (by omega)
      have hl : (List.replicate n x).length = n := List.length_replicate
      clear h ho HWk hkn hlt
      go_wp2
      go_ret
      exact ⟨some ⟨g, 0, none⟩, n, by rw [hl]; rfl, by rw [hl]; exact Nat.le_refl _, by unfold maxLen; omega, by rw [hl]; exact HO.out, HBk.out⟩

def riseK (x : UInt8) (n : Nat) : List UInt8 := (List.range n).map fun i => x + UInt8.ofNat i
theorem riseK_succ (x : UInt8) (n : Nat) : riseK x (n + 1) = riseK x n ++ [x + UInt8.ofNat n] := by simp [riseK, List.range_succ]
theorem riseK_len (x : UInt8) (n : Nat) : (riseK x n).length = n := by simp [riseK]
theorem rise_cell (x : UInt8) (k : Nat) (h : k < 256) : Value.int .u8 (((x.toNat : Int) + (k : Int)) % 256) = cell8 (x + UInt8.ofNat k) := by
  unfold cell8
  rw [UInt8.toNat_add, UInt8.toNat_ofNat', Nat.mod_eq_of_lt (by omega : k < 2 ^ 8)]
  simp

set_option maxRecDepth 100000 in
set_option maxHeartbeats 400000 in
theorem rise_any (x : UInt8) (n : Nat) (w : World) (hn : n ≤ 200) :
    Calls Tryd.prog 18 #[.int .u8 (x.toNat : Int), .int .i64 (n : Int)] w (GaveB w (riseK x n)) := by
  obtain ⟨i0, hi0, hz0, hz1, hz2⟩ := info_parts info8
  go_enter Tryd.func18, Tryd.ntmps18
  go_wp2
  go_loopw [5, 8] (fun v i wr => ∃ k : Nat, k ≤ n ∧ i = .int .i64 (k : Int) ∧ Hid (wr.ownsRow w.heap.size 5 1 v k ((riseK x k).map cell8)) ∧ Hid (Below w.heap.size w wr)) (fun _ i _ => n - (intOf i).toNat)
  case atStart => exact ⟨0, by omega, rfl, Lib.hid (by simpa [riseK] using World.ownsRow_nil _ _ _ 1), Lib.hid (Below.refl _ _)⟩
  case round =>
    obtain ⟨k, hk, rfl, HO, HB⟩ := hrel
    by_cases hlt : k < n
    · have t1 : decide (k < n) = true := decide_eq_true hlt
      have t1' : decide ((k : Int) < (n : Int)) = true := decide_eq_true (by omega)
      have HRC := Deep.mk (rise_cell x k (by omega))
      have hsz : w.heap.size ≤ wr.heap.size := HB.out.size
      have hx := x.toNat_lt
      have HOA := Lib.hid (HO.out.alloc (.cells #[Value.int .u8 (((x.toNat : Int) + (k : Int)) % 256)] 5))
      go_wp2_with (at_builtin; refine wpList_append_sv _ rfl (.tmp 11) (.tmp 16) _ rfl w.heap.size 5 i0 _ 1 Tryd.underlying22 hi0 hz0 hz1 hz2 rfl _ k _ rfl HOA.out (wr.heap.size + 1) (some ⟨wr.heap.size, 0, none⟩) 1 1 [Value.int .u8 (((x.toNat : Int) + (k : Int)) % 256)] rfl (sv_new wr _ _) rfl (fun u hu => by simp at hu; subst hu; rfl) (by unfold maxLen; omega) (by omega) (by simp; omega) ?_; intro v5 w5 hown5 hg5 hno5; have HO5 := Lib.hid hown5; have HG5 := Lib.hid hg5; clear hown5 hg5 hno5)
      have ho5 := HO5.out
      rw [HRC.out, ← List.map_singleton (f := cell8), ← List.map_append, ← riseK_succ] at ho5
      have HB5 := Lib.hid ((HB.out.alloc hsz (.cells #[Value.int .u8 (((x.toNat : Int) + (k : Int)) % 256)] 5)).grown HG5.out (by simp; omega) (fun p hp => (HOA.out.lt p hp).1))
      exact ⟨⟨k + 1, by omega, by go_num, Lib.hid ho5, HB5⟩, by simp [intOf]; omega⟩
    · have hkn : k = n := by omega
      have ho := HO.out
      rw [hkn] at ho
      obtain ⟨A5, c5, rfl, h5a, h5b⟩ := own_form ho
      have HO5 := Lib.hid ho
      have hl := riseK_len x n
      have HLN := Deep.mk hl
      have t1 : decide (k < n) = false := decide_eq_false hlt
      have t1' : decide ((k : Int) < (n : Int)) = false := decide_eq_false (by omega)
      clear ho HO hkn hlt hl
      go_wp2
      go_ret
      exact ⟨A5, c5, by rw [HLN.out]; rfl, by rw [HLN.out]; exact h5a, h5b, by rw [HLN.out]; exact HO5.out, HB.out⟩
theorem rise_salt : riseK 0 13 = exSalt := by decide
theorem rise_info : riseK 240 10 = exInfo := by decide
end Go.Proofs.YtjbhnfgjkibmfaaDoor
