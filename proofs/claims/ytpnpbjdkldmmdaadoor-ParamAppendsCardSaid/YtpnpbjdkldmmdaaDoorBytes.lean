/-
  The walk through varint.Bytes.
-/
import Derived.Test.YtpnpbjdkldmmdaaDoorTake
import Derived.Test.YtpnpbjdkldmmdaaDoorSize
import Derived.Test.YtpnpbjdkldmmdaaDoorLaws
import Derived.BigQuiet
namespace Go.Proofs.YtpnpbjdkldmmdaaDoor
open Go.RowKit
set_option linter.unusedVariables false

set_option maxRecDepth 10000 in
set_option maxHeartbeats 400000 in
theorem bytes_none {l : List UInt8} (h : tk l = none) (A : Option Addr) (len c : Nat) (w : World) (B : Nat) (hl : l.length = len) (hr : Sl w B A l) :
    Calls Tryd.prog 50 #[.slice A len c] w fun e w' => e = .returned (.tuple #[.slice none 0 0, .int .i64 0, .bool false]) ∧ w = w' := by
  have HL := Lib.hid hl
  clear hl
  go_enter Tryd.func50, Tryd.ntmps50
  go_wp2_with (go_at_call 49; refine (take_none h A len c _ B HL.out hr).mono ?_; rintro e w' ⟨rfl, rfl⟩)
  go_ret3
  exact ⟨rfl, rfl⟩

set_option maxRecDepth 10000 in
set_option maxHeartbeats 400000 in
theorem bytes_far {l : List UInt8} {n k : Nat} (h : tk l = some (n, k)) (A : Option Addr) (len c : Nat) (w : World) (B : Nat) (hl : l.length = len) (hr : Sl w B A l) (hc : len ≤ c) (hm : c ≤ maxLen) (hk : k ≤ len) (hfar : len - k < n) (hn64 : n < 18446744073709551616) :
    Calls Tryd.prog 50 #[.slice A len c] w fun e w' => e = .returned (.tuple #[.slice none 0 0, .int .i64 0, .bool false]) ∧ w = w' := by
  have HL := Lib.hid hl
  clear hl
  have HM : Hid (c ≤ maxLen) := hm
  unfold maxLen at hm
  have h1 : ((len : Int) - (k : Int)) = ((len - k : Nat) : Int) := by omega
  have h2 : ((len - k : Nat) : Int) < (n : Int) := by omega
  have H := Lib.hid h
  clear h
  go_enter Tryd.func50, Tryd.ntmps50
  go_wp2_with (go_at_call 49; refine (take_some H.out A len c _ B HL.out hr hc HM.out).mono ?_; rintro e w' ⟨rfl, rfl⟩)
  go_ret3
  exact ⟨rfl, rfl⟩

set_option maxRecDepth 10000 in
set_option maxHeartbeats 400000 in
theorem bytes_some {l : List UInt8} {n k : Nat} (h : tk l = some (n, k)) (A : Option Addr) (len c : Nat) (w : World) (B : Nat) (hl : l.length = len) (hr : Sl w B A l) (hc : len ≤ c) (hm : c ≤ maxLen) (hk : k ≤ len) (hnear : n ≤ len - k) (hlen : len ≤ 1048576) (hB : B ≤ w.heap.size) :
    Calls Tryd.prog 50 #[.slice A len c] w (Gave w ((l.drop k).take n) fun v => .tuple #[v, .int .i64 (k + n : Nat), .bool true]) := by
  obtain ⟨i0, hi0, hz0, hz1, hz2⟩ := info_parts info8
  have HL := Lib.hid hl
  clear hl
  have HM : Hid (c ≤ maxLen) := hm
  unfold maxLen at hm
  have h1 : ((len : Int) - (k : Int)) = ((len - k : Nat) : Int) := by omega
  have h2 : ¬ ((len - k : Nat) : Int) < (n : Int) := by omega
  have H := Lib.hid h
  clear h
  have hcut : Sv (w.alloc (.cells #[] 5)) B (if c = k then A else A.map fun x => x.add k) (((l.drop k).take n).map cell8) := by
    have := (hr.cut k n c (by rw [List.length_map, HL.out]; exact hc)).keep (w' := w.alloc (.cells #[] 5)) (Nat.le_refl _) (fun p hp => World.cell?_alloc_lt w _ p (by omega))
    rw [List.map_take, List.map_drop]
    exact this
  have HC := Lib.hid hcut
  clear hcut
  have HN : Hid (((l.drop k).take n).length = n) := by show _ = _; rw [List.length_take, List.length_drop, HL.out]; omega
  generalize (l.drop k).take n = g at HC HN ⊢
  go_enter Tryd.func50, Tryd.ntmps50
  go_wp2_with (first
    | (go_at_call 49; refine (take_some H.out A len c _ B HL.out hr hc HM.out).mono ?_; rintro e w' ⟨rfl, rfl⟩)
    | (at_builtin; refine wpList_append_sv _ rfl _ _ _ rfl w.heap.size 5 i0 _ 1 Tryd.underlying22 hi0 hz0 hz1 hz2 rfl (.slice (some ⟨w.heap.size, 0, none⟩) 0 0) 0 [] rfl (World.ownsRow_made w #[] 0 (Nat.le_refl _) (Nat.zero_le _) rfl) B _ _ _ _ rfl HC.out ((List.length_map _).trans (HN.out.trans (by omega))) (cell8_one _) (by unfold maxLen; omega) (by omega) (by simp) ?_; intro v1 w1 hown1 hg1 hat1))
  all_goals
    have hl : g.length = n := HN.out
    rw [show 0 + (k + n - k) = n by omega, List.nil_append, ← hl] at hown1
    obtain ⟨A', c', rfl, q1, q2⟩ := own_form hown1
    go_ret3
    exact ⟨A', c', rfl, q1, q2, hown1, ((Below.refl _ _).alloc (Nat.le_refl _) _).grown hg1 (by simp) (fun q hq => by simp [Value.ownBlock] at hq; omega)⟩

end Go.Proofs.YtpnpbjdkldmmdaaDoor
