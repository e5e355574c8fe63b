/-
  Transport parameters: one parameter with whose bytes any bytes begin (param.take).
-/
import Derived.Test.YtpnpbjdkldmmdaaDoorQMath
import Derived.Test.YtpnpbjdkldmmdaaDoorBytes
import Derived.Test.YtpnpbjdkldmmdaaDoorWh
import Derived.Deep.Cut
namespace Go.Proofs.YtpnpbjdkldmmdaaDoor
open Go.RowKit
set_option linter.unusedVariables false

/-- What param.take tells. -/
def OneGave (w : World) (o : Option (Nat × List UInt8 × Nat)) (e : Ending) (w' : World) : Prop :=
  match o with
  | some (id, v, used) => ∃ A' c', e = .returned (.tuple #[.int .u64 (id : Int), .slice A' v.length c', .int .i64 (used : Int), .bool true]) ∧ v.length ≤ c' ∧ c' ≤ maxLen ∧ Sy w' w.heap.size A' (v.map cell8) ∧ Below w.heap.size w w'
  | none => ∃ (id : Nat) (u : Int), id < 18446744073709551616 ∧ e = .returned (.tuple #[.int .u64 (id : Int), .slice none 0 0, .int .i64 u, .bool false]) ∧ Below w.heap.size w w'

set_option maxRecDepth 10000 in
set_option maxHeartbeats 800000 in
theorem qone_none {l : List UInt8} (h : tk l = none) (A : Option Addr) (len c : Nat) (w : World) (hl : l.length = len) (hr : Sl w w.heap.size A l) :
    Calls Tryd.prog 38 #[.slice A len c] w (OneGave w none) := by
  have H := Lib.hid (take_none h A len c w w.heap.size hl hr)
  clear h hl hr
  go_enter Tryd.func38, Tryd.ntmps38
  go_wp2_with (go_at_call 49; refine H.out.mono ?_; rintro e w' ⟨rfl, rfl⟩)
  refine bodyPost_ret (v := .tuple #[.int .u64 0, .slice none 0 0, .int .i64 0, .bool false]) (by simp [results, Tryd.results38, go_sem]) rfl ?_
  exact ⟨0, 0, by omega, rfl, Below.refl _ _⟩

set_option maxRecDepth 10000 in
set_option maxHeartbeats 800000 in
theorem qone_some {l : List UInt8} {id a : Nat} (h : tk l = some (id, a)) (A : Option Addr) (len c : Nat) (w : World) (hl : l.length = len) (hr : Sl w w.heap.size A l) (hc : len ≤ c) (hm : c ≤ maxLen) (hlen : len ≤ 1048576) :
    Calls Tryd.prog 38 #[.slice A len c] w (OneGave w (oneQ l)) := by
  have hta := tk_le h
  obtain ⟨b, off, rfl, hb, hcell⟩ := Sl.at_ hr (by omega)
  have hcut : Sl w w.heap.size (if c = a then some ⟨b, off, none⟩ else some ⟨b, off + a, none⟩) (l.drop a) := by
    by_cases hca : c = a
    · rw [show l.drop a = [] from List.drop_of_length_le (by omega)]
      exact Sv.nil _ _ _
    · rw [if_neg hca]
      have := hr.drop a
      rwa [← List.map_drop] at this
  have hd : (l.drop a).length = len - a := by rw [List.length_drop, hl]
  have hid := (tk_shortest h).2
  have hn64 : ∀ n k, tk (l.drop a) = some (n, k) → n ≤ 4611686018427387903 ∧ k ≤ len - a := fun n k e => ⟨(tk_shortest e).2, by have := (tk_le e).2; omega⟩
  have HK := Lib.hid (take_some h (some ⟨b, off, none⟩) len c w w.heap.size hl hr hc hm)
  have ho : oneQ l = match tk (l.drop a) with
    | none => none
    | some (n, k) => if n ≤ len - a - k then some (id, ((l.drop a).drop k).take n, a + (k + n)) else none := by
    unfold oneQ
    rw [h]
    simp only [hd]
    cases tk (l.drop a) <;> rfl
  rw [ho]
  have HM : Hid (c ≤ maxLen) := hm
  have hal : a ≤ len := by omega
  clear ho h hl hcell hta hr
  unfold maxLen at hm
  cases ht : tk (l.drop a) with
  | none =>
    by_cases hca : c = a
    · obtain rfl : len = a := by omega
      obtain rfl : c = len := hca
      have HB := Lib.hid (bytes_none tk_nil (some ⟨b, off, none⟩) 0 0 w w.heap.size rfl (Sv.nil _ _ _))
      clear hcut hd ht hn64
      go_enter Tryd.func38, Tryd.ntmps38
      go_wp2_with (first | (go_at_call 49; refine HK.out.mono ?_; rintro e w' ⟨rfl, rfl⟩) | (go_at_call 50; refine HB.out.mono ?_; rintro e w' ⟨rfl, rfl⟩))
      refine bodyPost_ret (v := .tuple #[.int .u64 (id : Int), .slice none 0 0, .int .i64 (c : Int), .bool false]) (by simp [results, Tryd.results38, go_sem]) rfl ?_
      exact ⟨id, c, by omega, rfl, Below.refl _ _⟩
    · rw [if_neg hca] at hcut
      have HB := Lib.hid (bytes_none ht (some ⟨b, off + a, none⟩) (len - a) (c - a) w w.heap.size hd hcut)
      clear hcut hd ht hn64
      go_enter Tryd.func38, Tryd.ntmps38
      go_wp2_with (first | (go_at_call 49; refine HK.out.mono ?_; rintro e w' ⟨rfl, rfl⟩) | (go_at_call 50; refine HB.out.mono ?_; rintro e w' ⟨rfl, rfl⟩))
      refine bodyPost_ret (v := .tuple #[.int .u64 (id : Int), .slice none 0 0, .int .i64 (a : Int), .bool false]) (by simp [results, Tryd.results38, go_sem]) rfl ?_
      exact ⟨id, a, by omega, rfl, Below.refl _ _⟩
  | some x =>
    obtain ⟨n, k⟩ := x
    obtain ⟨hnm, hkm⟩ := hn64 n k ht
    simp only
    by_cases hnear : n ≤ len - a - k
    · rw [if_pos hnear]
      by_cases hca : c = a
      · have hk1 := (tk_le ht).1
        omega
      · rw [if_neg hca] at hcut
        have HB := Lib.hid (bytes_some ht (some ⟨b, off + a, none⟩) (len - a) (c - a) w w.heap.size hd hcut (by omega) (by unfold maxLen; omega) hkm hnear (by omega) (Nat.le_refl _))
        clear hcut hd ht hn64
        generalize ((l.drop a).drop k).take n = v at *
        go_enter Tryd.func38, Tryd.ntmps38
        go_wp2_with (first | (go_at_call 49; refine HK.out.mono ?_; rintro e w' ⟨rfl, rfl⟩) | (go_at_call 50; refine HB.out.mono ?_; rintro e w3 ⟨A3, c3, rfl, hq3, hm3, hown3, hb3⟩))
        refine bodyPost_ret (v := .tuple #[.int .u64 (id : Int), .slice A3 v.length c3, .int .i64 ((a : Int) + ((k + n : Nat) : Int)), .bool true]) (by simp [results, Tryd.results38, go_sem]) rfl ?_
        exact ⟨A3, c3, by rw [show ((a + (k + n) : Nat) : Int) = (a : Int) + ((k + n : Nat) : Int) by omega], hq3, hm3, Sy.of_own hown3 (Nat.le_refl _), hb3⟩
    · rw [if_neg hnear]
      by_cases hca : c = a
      · have hk1 := (tk_le ht).1
        omega
      · rw [if_neg hca] at hcut
        have HB := Lib.hid (bytes_far ht (some ⟨b, off + a, none⟩) (len - a) (c - a) w w.heap.size hd hcut (by omega) (by unfold maxLen; omega) hkm (by omega) (by omega))
        clear hcut hd ht hn64
        go_enter Tryd.func38, Tryd.ntmps38
        go_wp2_with (first | (go_at_call 49; refine HK.out.mono ?_; rintro e w' ⟨rfl, rfl⟩) | (go_at_call 50; refine HB.out.mono ?_; rintro e w' ⟨rfl, rfl⟩))
        refine bodyPost_ret (v := .tuple #[.int .u64 (id : Int), .slice none 0 0, .int .i64 (a : Int), .bool false]) (by simp [results, Tryd.results38, go_sem]) rfl ?_
        exact ⟨id, a, by omega, rfl, Below.refl _ _⟩

theorem qone_any (l : List UInt8) (A : Option Addr) (len c : Nat) (w : World) (hl : l.length = len) (hr : Sl w w.heap.size A l) (hc : len ≤ c) (hm : c ≤ maxLen) (hlen : len ≤ 1048576) :
    Calls Tryd.prog 38 #[.slice A len c] w (OneGave w (oneQ l)) := by
  cases h : tk l with
  | none =>
    rw [show oneQ l = none by unfold oneQ; rw [h]]
    exact qone_none h A len c w hl hr
  | some x => exact qone_some h A len c w hl hr hc hm hlen

end Go.Proofs.YtpnpbjdkldmmdaaDoor
