/-
  The walks through the document's own Part and Sized (hostlerref01).
-/
import Derived.Test.YtbkdjnppgdjnaaaDoorRefTake
import Derived.Test.YtbkdjnppgdjnaaaDoorBytes
namespace Go.Proofs.YtbkdjnppgdjnaaaDoor
open Go.RowKit
set_option linter.unusedVariables false

set_option maxRecDepth 10000 in
set_option maxHeartbeats 400000 in
theorem part_below (A : Option Addr) (len c : Nat) (a n : Int) (w : World) (h0 : a < 0) :
    Calls Tryd.prog 15 #[.slice A len c, .int .i64 a, .int .u64 n] w fun e w' => e = .returned (.tuple #[.slice none 0 0, .int .i64 (-1)]) ∧ w = w' := by
  go_enter Tryd.func15, Tryd.ntmps15
  go_wp2
  go_ret2
  exact ⟨rfl, rfl⟩

set_option maxRecDepth 10000 in
set_option maxHeartbeats 400000 in
theorem part_far (A : Option Addr) (len c a n : Nat) (w : World) (ha : a ≤ len) (hc : len ≤ c) (hm : c ≤ 9223372036854775807) (hfar : len - a < n) :
    Calls Tryd.prog 15 #[.slice A len c, .int .i64 (a : Int), .int .u64 (n : Int)] w fun e w' => e = .returned (.tuple #[.slice none 0 0, .int .i64 (-1)]) ∧ w = w' := by
  have h1 : ((len : Int) - (a : Int)) = ((len - a : Nat) : Int) := by omega
  have h2 : ((len - a : Nat) : Int) < (n : Int) := by omega
  go_enter Tryd.func15, Tryd.ntmps15
  go_wp2
  go_ret2
  exact ⟨rfl, rfl⟩

set_option maxRecDepth 10000 in
set_option maxHeartbeats 400000 in
theorem part_some {l : List UInt8} {n a : Nat} (A : Option Addr) (len c : Nat) (w : World) (B : Nat) (hl : l.length = len) (hr : Sl w B A l) (hc : len ≤ c) (hm : c ≤ maxLen) (ha : a ≤ len) (hnear : n ≤ len - a) (hlen : len ≤ 1048576) (hB : B ≤ w.heap.size) :
    Calls Tryd.prog 15 #[.slice A len c, .int .i64 (a : Int), .int .u64 (n : Int)] w (Gave w ((l.drop a).take n) fun v => .tuple #[v, .int .i64 (a + n : Nat)]) := by
  obtain ⟨i0, hi0, hz0, hz1, hz2⟩ := info_parts info8
  have HL := Lib.hid hl
  clear hl
  unfold maxLen at hm
  have h1 : ((len : Int) - (a : Int)) = ((len - a : Nat) : Int) := by omega
  have h2 : ¬ ((len - a : Nat) : Int) < (n : Int) := by omega
  have hcut : Sv (w.alloc (.cells #[] 5)) B (if c = a then A else A.map fun x => x.add a) (((l.drop a).take n).map cell8) := by
    have := (hr.cut a n c (by rw [List.length_map, HL.out]; exact hc)).keep (w' := w.alloc (.cells #[] 5)) (Nat.le_refl _) (fun p hp => World.cell?_alloc_lt w _ p (by omega))
    rw [List.map_take, List.map_drop]
    exact this
  have HC := Lib.hid hcut
  clear hcut
  have HN : Hid (((l.drop a).take n).length = n) := by show _ = _; rw [List.length_take, List.length_drop, HL.out]; omega
  generalize (l.drop a).take n = g at HC HN ⊢
  go_enter Tryd.func15, Tryd.ntmps15
  go_wp2_with (at_builtin; refine wpList_append_sv _ rfl _ _ _ rfl w.heap.size 5 i0 _ 1 Tryd.underlying22 hi0 hz0 hz1 hz2 rfl (.slice (some ⟨w.heap.size, 0, none⟩) 0 0) 0 [] rfl (World.ownsRow_made w #[] 0 (Nat.le_refl _) (Nat.zero_le _) rfl) B _ _ _ _ rfl HC.out ((List.length_map _).trans (HN.out.trans (by omega))) (cell8_one _) (by unfold maxLen; omega) (by omega) (by simp) ?_; intro v1 w1 hown1 hg1 hat1)
  all_goals
    have hl : g.length = n := HN.out
    rw [show 0 + (a + n - a) = n by omega, List.nil_append, ← hl] at hown1
    obtain ⟨A', c', rfl, q1, q2⟩ := own_form hown1
    go_ret2
    exact ⟨A', c', rfl, q1, q2, hown1, ((Below.refl _ _).alloc (Nat.le_refl _) _).grown hg1 (by simp) (fun q hq => by simp [Value.ownBlock] at hq; omega)⟩

/-- The bytes that stand behind how many they are, and how many all are. -/
def by_ (l : List UInt8) : Option (List UInt8 × Nat) :=
  match tk l with
  | some (n, k) => if n ≤ l.length - k then some ((l.drop k).take n, k + n) else none
  | none => none

theorem tk_le {l : List UInt8} {n k : Nat} (h : tk l = some (n, k)) : 1 ≤ k ∧ k ≤ 8 ∧ k ≤ l.length ∧ n < 4611686018427387904 := by
  obtain ⟨x, t, rfl, rfl, hs, rfl⟩ := tk_some h
  have h1 := cls_pos x
  have h8 := cls_le x
  refine ⟨h1, h8, by simpa using hs, val_step_lt x _ ?_⟩
  rw [List.length_take]
  omega

set_option maxRecDepth 10000 in
set_option maxHeartbeats 400000 in
/-- Sized where there are none. -/
theorem sized_none {l : List UInt8} (h : by_ l = none) (A : Option Addr) (len c : Nat) (w : World) (B : Nat) (hl : l.length = len) (hr : Sl w B A l) (hc : len ≤ c) (hm : c ≤ maxLen) :
    Calls Tryd.prog 10 #[.slice A len c, .int .i64 0] w fun e w' => e = .returned (.tuple #[.slice none 0 0, .int .i64 (-1)]) ∧ w = w' := by
  have HL := Lib.hid hl
  have HM : Hid (c ≤ maxLen) := hm
  unfold maxLen at hm
  rcases htk : tk l with _ | ⟨n, k⟩
  · have H0 := Lib.hid (show tk (l.drop 0) = none by simpa using htk)
    clear htk hl h
    go_enter Tryd.func10, Tryd.ntmps10
    go_wp2_with (first
      | (go_at_call 8; refine (reft_none (a := 0) H0.out A len c _ B HL.out hr hc HM.out).mono ?_; rintro e w' ⟨rfl, rfl⟩)
      | (go_at_call 15; refine (part_below A len c (-1) 0 _ (by omega)).mono ?_; rintro e w' ⟨rfl, rfl⟩))
    go_ret2
    exact ⟨rfl, rfl⟩
  · have H0 := Lib.hid (show tk (l.drop 0) = some (n, k) by simpa using htk)
    have hk := tk_le htk
    have hfar : len - k < n := by
      unfold by_ at h
      rw [htk] at h
      by_cases hn : n ≤ l.length - k
      · simp [hn] at h
      · omega
    have hk1 := hk.2.2.1
    rw [HL.out] at hk1
    clear htk hl h hk
    go_enter Tryd.func10, Tryd.ntmps10
    go_wp2_with (first
      | (go_at_call 8; refine (reft_some (a := 0) H0.out A len c _ B HL.out hr hc HM.out).mono ?_; rintro e w' ⟨rfl, rfl⟩; rw [Nat.zero_add])
      | (go_at_call 15; refine (part_far A len c k n _ hk1 hc (by omega) hfar).mono ?_; rintro e w' ⟨rfl, rfl⟩))
    go_ret2
    exact ⟨rfl, rfl⟩

theorem by_some {l : List UInt8} {m : List UInt8} {u : Nat} (h : by_ l = some (m, u)) : ∃ n k, tk l = some (n, k) ∧ n ≤ l.length - k ∧ m = (l.drop k).take n ∧ u = k + n := by
  unfold by_ at h
  rcases htk : tk l with _ | ⟨n, k⟩
  · rw [htk] at h; cases h
  · rw [htk] at h
    by_cases hn : n ≤ l.length - k
    · simp [hn] at h
      exact ⟨n, k, rfl, hn, h.1.symm, h.2.symm⟩
    · simp [hn] at h

set_option maxRecDepth 10000 in
set_option maxHeartbeats 400000 in
/-- Sized where there are some. -/
theorem sized_some {l m : List UInt8} {u : Nat} (h : by_ l = some (m, u)) (A : Option Addr) (len c : Nat) (w : World) (B : Nat) (hl : l.length = len) (hr : Sl w B A l) (hc : len ≤ c) (hm : c ≤ maxLen) (hlen : len ≤ 1048576) (hB : B ≤ w.heap.size) :
    Calls Tryd.prog 10 #[.slice A len c, .int .i64 0] w (Gave w m fun v => .tuple #[v, .int .i64 (u : Int)]) := by
  have HL := Lib.hid hl
  have HM : Hid (c ≤ maxLen) := hm
  unfold maxLen at hm
  obtain ⟨n, k, htk, hn, rfl, rfl⟩ := by_some h
  have H0 := Lib.hid (show tk (l.drop 0) = some (n, k) by simpa using htk)
  have hk := tk_le htk
  have hk1 := hk.2.2.1
  rw [HL.out] at hk1 hn
  clear htk hl h hk
  have hpart := fun (w : World) (hr : Sl w B A l) (hB : B ≤ w.heap.size) => part_some (n := n) (a := k) A len c w B HL.out hr hc HM.out hk1 hn hlen hB
  have HP := Lib.hid hpart
  clear hpart
  generalize (l.drop k).take n = g at HP ⊢
  go_enter Tryd.func10, Tryd.ntmps10
  go_wp2_with (first
    | (go_at_call 8; refine (reft_some (a := 0) H0.out A len c _ B HL.out hr hc HM.out).mono ?_; rintro e w' ⟨rfl, rfl⟩; rw [Nat.zero_add])
    | (go_at_call 15; refine (HP.out _ hr hB).mono ?_; rintro e w' ⟨A', c', rfl, q1, q2, hown, hbel⟩))
  go_ret2
  exact ⟨A', c', rfl, q1, q2, hown, hbel⟩

/-- varint.Bytes, in the same words. -/
theorem vbytes_none {l : List UInt8} (h : by_ l = none) (A : Option Addr) (len c : Nat) (w : World) (B : Nat) (hl : l.length = len) (hr : Sl w B A l) (hc : len ≤ c) (hm : c ≤ maxLen) :
    Calls Tryd.prog 9 #[.slice A len c] w fun e w' => e = .returned (.tuple #[.slice none 0 0, .int .i64 0, .bool false]) ∧ w = w' := by
  rcases htk : tk l with _ | ⟨n, k⟩
  · exact bytes_none htk A len c w B hl hr
  · have hk := tk_le htk
    refine bytes_far htk A len c w B hl hr hc hm (by omega) ?_ (by omega)
    unfold by_ at h
    rw [htk] at h
    by_cases hn : n ≤ l.length - k
    · simp [hn] at h
    · omega

theorem vbytes_some {l m : List UInt8} {u : Nat} (h : by_ l = some (m, u)) (A : Option Addr) (len c : Nat) (w : World) (B : Nat) (hl : l.length = len) (hr : Sl w B A l) (hc : len ≤ c) (hm : c ≤ maxLen) (hlen : len ≤ 1048576) (hB : B ≤ w.heap.size) :
    Calls Tryd.prog 9 #[.slice A len c] w (Gave w m fun v => .tuple #[v, .int .i64 (u : Int), .bool true]) := by
  obtain ⟨n, k, htk, hn, rfl, rfl⟩ := by_some h
  have hk := tk_le htk
  exact bytes_some htk A len c w B hl hr hc hm (by omega) (by omega) hlen hB

end Go.Proofs.YtbkdjnppgdjnaaaDoor
