/-
  The walk through the document's own Take (hostlerref01), at any place.
-/
import Derived.Test.YtbkdjnppgdjnaaaDoorRows
import Derived.WalkSpells
import Derived.WalkLawsBesides
import Derived.Test.YtbkdjnppgdjnaaaDoorWords
import Derived.BigQuiet
namespace Go.Proofs.YtbkdjnppgdjnaaaDoor
open Go.RowKit
set_option linter.unusedVariables false

set_option maxRecDepth 10000 in
set_option maxHeartbeats 400000 in
theorem reft_out (A : Option Addr) (len c : Nat) (a : Int) (w : World) (h0 : 0 ≤ a) (h1 : (len : Int) ≤ a) :
    Calls Tryd.prog 8 #[.slice A len c, .int .i64 a] w fun e w' => e = .returned (.tuple #[.int .u64 0, .int .i64 (-1)]) ∧ w = w' := by
  go_enter Tryd.func8, Tryd.ntmps8
  go_wp2
  go_ret2
  exact ⟨rfl, rfl⟩

set_option maxRecDepth 10000 in
set_option maxHeartbeats 400000 in
theorem reft_below (A : Option Addr) (len c : Nat) (a : Int) (w : World) (h0 : a < 0) :
    Calls Tryd.prog 8 #[.slice A len c, .int .i64 a] w fun e w' => e = .returned (.tuple #[.int .u64 0, .int .i64 (-1)]) ∧ w = w' := by
  go_enter Tryd.func8, Tryd.ntmps8
  go_wp2
  go_ret2
  exact ⟨rfl, rfl⟩

/-- What is told at a place where a first byte lies: none, or the number and the place behind it. -/
def ToldAt (n s a v : Nat) (w : World) (e : Ending) (w' : World) : Prop :=
  (n < s → e = .returned (.tuple #[.int .u64 0, .int .i64 (-1)])) ∧ (s ≤ n → e = .returned (.tuple #[.int .u64 (v : Int), .int .i64 (a + s : Nat)])) ∧ w = w'

set_option maxRecDepth 10000 in
set_option maxHeartbeats 800000 in
theorem reft_in (b off len c a s : Nat) (x : UInt8) (t : List UInt8) (w : World) (hc : len ≤ c) (hmax : c ≤ 9223372036854775807) (ha : a < len)
    (hx : w.cell? ⟨b, off + a, none⟩ = some (.int .u8 (x.toNat : Int))) (hb : (x.toNat : Int) < 256) (hb0 : (0 : Int) ≤ (x.toNat : Int)) (hl : t.length + 1 = len - a)
    (hs : 2 ^ (x.toNat / 64) = s) (hs1 : 1 ≤ s) (hs8 : s ≤ 8)
    (ht : ∀ i y, t[i]? = some y → w.cell? ⟨b, off + (a + (i + 1)), none⟩ = some (.int .u8 (y.toNat : Int))) :
    Calls Tryd.prog 8 #[.slice (some ⟨b, off, none⟩) len c, .int .i64 a] w (ToldAt (len - a) s a (val (x.toNat % 64) (t.take (s - 1))) w) := by
  have HT := Lib.hid ht
  have HL := Lib.hid hl
  have HS := Lib.hid hs
  clear ht hl hs
  go_enter Tryd.func8, Tryd.ntmps8
  go_wp2
  go_loop [6, 7] (fun m i => ∃ j : Nat, j ≤ x.toNat / 64 ∧ i = .int .i64 j ∧ m = .int .i64 (2 ^ j : Nat)) (fun _ i => x.toNat / 64 - (intOf i).toNat)
  case atStart => exact ⟨0, Nat.zero_le _, rfl, rfl⟩
  case round =>
    obtain ⟨j, hj, rfl, rfl⟩ := hrel
    by_cases hlt : j < x.toNat / 64
    · have hp : 2 ^ j ≤ 4 := by
        have : 2 ^ j ≤ 2 ^ 2 := Nat.pow_le_pow_right (by omega) (by omega)
        exact this
      have HN := Lib.hid (show 2 ^ (j + 1) = 2 * 2 ^ j by rw [Nat.pow_succ]; omega)
      generalize 2 ^ j = q at *
      go_wp2
      go_round
      case rel => exact ⟨j + 1, by omega, by go_num, by rw [HN.out]; go_num⟩
      case measure => simp [intOf]; omega
    · obtain rfl : j = x.toNat / 64 := by omega
      rw [HS.out]
      by_cases hs : len - a < s
      · go_wp2
        go_ret2
        exact ⟨fun _ => rfl, fun h => absurd h (by omega), rfl⟩
      · go_wp2
        go_loop [8, 9] (fun v i => ∃ k : Nat, 1 ≤ k ∧ k ≤ s ∧ i = .int .i64 k ∧ v = .int .u64 (val (x.toNat % 64) (t.take (k - 1)) : Nat)) (fun _ i => s - (intOf i).toNat)
        case atStart => exact ⟨1, by omega, by omega, rfl, by simp [val]⟩
        case round =>
          obtain ⟨k, hk1, hk, rfl, rfl⟩ := hrel
          by_cases hlt : k < s
          · have hkt : k - 1 < t.length := by have := HL.out; omega
            obtain ⟨y, hy⟩ : ∃ y, t[k - 1]? = some y := ⟨_, List.getElem?_eq_getElem hkt⟩
            have hcy := HT.out (k - 1) y hy
            rw [show k - 1 + 1 = k by omega] at hcy
            have hv := val_step_lt6 x (t.take (k - 1)) (by rw [List.length_take]; omega)
            have hty := y.toNat_lt
            have HN := Lib.hid (show val (x.toNat % 64) (t.take (k + 1 - 1)) = 256 * val (x.toNat % 64) (t.take (k - 1)) + y.toNat by
              have := take_next t (k - 1) y hy
              rw [show k - 1 + 1 = k by omega] at this
              rw [show k + 1 - 1 = k by omega, this, val_snoc])
            clear hy
            generalize val (x.toNat % 64) (t.take (k - 1)) = v at *
            go_wp2
            go_round
            case rel => exact ⟨k + 1, by omega, by omega, by go_num, by rw [HN.out]; go_num⟩
            case measure => simp [intOf]; omega
          · obtain rfl : k = s := by omega
            go_wp2
            go_ret2
            exact ⟨fun h => absurd h (by omega), fun _ => rfl, rfl⟩

/-- The document's Take at a place where a number begins. -/
theorem reft_some {l : List UInt8} {a n k : Nat} (h : tk (l.drop a) = some (n, k)) (A : Option Addr) (len c : Nat) (w : World) (B : Nat) (hl : l.length = len) (hr : Sl w B A l) (hc : len ≤ c) (hm : c ≤ maxLen) :
    Calls Tryd.prog 8 #[.slice A len c, .int .i64 (a : Int)] w fun e w' => e = .returned (.tuple #[.int .u64 (n : Int), .int .i64 (a + k : Nat)]) ∧ w = w' := by
  obtain ⟨x, t, hxt, rfl, hs, rfl⟩ := tk_some h
  have hlen : l.length - a = t.length + 1 := by rw [← List.length_drop, hxt]; rfl
  obtain ⟨b, off, rfl, hb, hcell⟩ := hr.at_ (by omega)
  have hd : ∀ i, l[a + i]? = (x :: t)[i]? := fun i => by rw [← hxt, List.getElem?_drop]
  have hxl := x.toNat_lt
  unfold maxLen at hm
  refine (reft_in b off len c a (cls x) x t w hc (by omega) (by omega) (hcell a x (by have := hd 0; rw [Nat.add_zero] at this; rw [this]; rfl)) (by omega) (by omega) (by omega) rfl (cls_pos x) (cls_le x)
    (fun i y hy => hcell _ y ((hd (i + 1)).trans (by simpa using hy)))).mono ?_
  rintro e w' ⟨_, h2, rfl⟩
  exact ⟨h2 (by omega), rfl⟩

/-- The document's Take at a place where none begins. -/
theorem reft_none {l : List UInt8} {a : Nat} (h : tk (l.drop a) = none) (A : Option Addr) (len c : Nat) (w : World) (B : Nat) (hl : l.length = len) (hr : Sl w B A l) (hc : len ≤ c) (hm : c ≤ maxLen) :
    Calls Tryd.prog 8 #[.slice A len c, .int .i64 (a : Int)] w fun e w' => e = .returned (.tuple #[.int .u64 0, .int .i64 (-1)]) ∧ w = w' := by
  by_cases ha : len ≤ a
  · exact reft_out A len c a w (by omega) (by omega)
  · have hlen : (l.drop a).length = l.length - a := List.length_drop
    obtain ⟨x, t, hxt⟩ : ∃ x t, l.drop a = x :: t := by
      cases hh : l.drop a with
      | nil => rw [hh] at hlen; simp at hlen; omega
      | cons x t => exact ⟨x, t, rfl⟩
    rw [hxt] at hlen h
    simp only [List.length_cons] at hlen
    have hs := tk_none h
    obtain ⟨b, off, rfl, hb, hcell⟩ := hr.at_ (by omega)
    have hd : ∀ i, l[a + i]? = (x :: t)[i]? := fun i => by rw [← hxt, List.getElem?_drop]
    have hxl := x.toNat_lt
    unfold maxLen at hm
    refine (reft_in b off len c a (cls x) x t w hc (by omega) (by omega) (hcell a x (by have := hd 0; rw [Nat.add_zero] at this; rw [this]; rfl)) (by omega) (by omega) (by omega) rfl (cls_pos x) (cls_le x)
      (fun i y hy => hcell _ y ((hd (i + 1)).trans (by simpa using hy)))).mono ?_
    rintro e w' ⟨h1, _, rfl⟩
    exact ⟨h1 (by omega), rfl⟩

end Go.Proofs.YtbkdjnppgdjnaaaDoor
