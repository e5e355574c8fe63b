/-
  The walk through varint.Take: it answers the number with whose bytes a slice begins, and how many they are, and leaves the world alone.
-/
import Derived.Test.YtkkojhkglcigmaaDoorRows
import Derived.WalkSpells
import Derived.WalkLawsBesides
import Derived.Test.YtkkojhkglcigmaaDoorWords
namespace Go.Proofs.YtkkojhkglcigmaaDoor
open Go.RowKit
set_option linter.unusedVariables false

theorem wrap_cls (x : UInt8) : wrap64 (2 ^ (x.toNat / 64)) = (cls x : Int) := by
  rcases cls_cases x with ⟨h, hc⟩ | ⟨h, hc⟩ | ⟨h, hc⟩ | ⟨h, hc⟩ <;> rw [h, hc] <;> exact IntWalk.wrap64_in _ ⟨by decide, by decide⟩

set_option maxRecDepth 10000 in
set_option maxHeartbeats 400000 in
theorem take_empty (A : Option Addr) (c : Nat) (w : World) :
    Calls Tryd.prog 59 #[.slice A 0 c] w fun e w' => e = .returned (.tuple #[.int .u64 0, .int .i64 0, .bool false]) ∧ w = w' := by
  go_enter Tryd.func59, Tryd.ntmps59
  go_wp2
  go_ret3
  exact ⟨rfl, rfl⟩

set_option maxRecDepth 10000 in
set_option maxHeartbeats 400000 in
theorem take_no (b off n c s : Nat) (x : UInt8) (w : World) (hn : n < s) (hx1 : (0 : Int) < (n : Int)) (hx2 : ((n : Int) == 0) = false)
    (hx : w.cell? ⟨b, off, none⟩ = some (.int .u8 (x.toNat : Int))) (hb : (x.toNat : Int) < 256)
    (hs : wrap64 (2 ^ (x.toNat / 64)) = (s : Int)) :
    Calls Tryd.prog 59 #[.slice (some ⟨b, off, none⟩) n c] w fun e w' => e = .returned (.tuple #[.int .u64 0, .int .i64 0, .bool false]) ∧ w = w' := by
  go_enter Tryd.func59, Tryd.ntmps59
  go_wp2
  go_ret3
  exact ⟨rfl, rfl⟩

set_option maxRecDepth 10000 in
set_option maxHeartbeats 400000 in
theorem take_yes (b off n c s : Nat) (x : UInt8) (t : List UInt8) (w : World) (hn : s ≤ n) (hc : n ≤ c) (hmax : c ≤ 9223372036854775807)
    (hx : w.cell? ⟨b, off, none⟩ = some (.int .u8 (x.toNat : Int))) (hx1 : (0 : Int) < (n : Int)) (hx2 : ((n : Int) == 0) = false) (hb : (x.toNat : Int) < 256) (hb0 : (0 : Int) ≤ (x.toNat : Int))
    (hs : wrap64 (2 ^ (x.toNat / 64)) = (s : Int)) (hs1 : 2 ≤ s) (hs8 : s ≤ 8) (hl : n ≤ t.length + 1)
    (ht : ∀ i y, t[i]? = some y → w.cell? ⟨b, off + 1 + i, none⟩ = some (.int .u8 (y.toNat : Int))) :
    Calls Tryd.prog 59 #[.slice (some ⟨b, off, none⟩) n c] w fun e w' =>
      e = .returned (.tuple #[.int .u64 (val (x.toNat % 64) (t.take (s - 1)) : Nat), .int .i64 s, .bool true]) ∧ w = w' := by
  go_enter Tryd.func59, Tryd.ntmps59
  have HT := Lib.hid ht
  clear ht
  go_wp2
  go_loop [2, 29] (fun v i => ∃ k : Nat, k ≤ s - 1 ∧ i = .int .i64 k ∧ v = .int .u64 (val (x.toNat % 64) (t.take k) : Nat)) (fun _ i => s - (intOf i).toNat)
  case atStart => exact ⟨0, by omega, rfl, by simp [val]⟩
  case round =>
    obtain ⟨k, hk, rfl, rfl⟩ := hrel
    by_cases hlt : k < s - 1
    · have hkt : k < t.length := by omega
      obtain ⟨y, hy⟩ : ∃ y, t[k]? = some y := ⟨_, List.getElem?_eq_getElem hkt⟩
      have hcy := HT.out k y hy
      have hv := val_step_lt6 x (t.take k) (by rw [List.length_take]; omega)
      have hor := or_byte _ y hv
      have hty := y.toNat_lt
      have HN := Lib.hid (show val (x.toNat % 64) (t.take (k + 1)) = 256 * val (x.toNat % 64) (t.take k) + y.toNat by rw [take_next t k y hy, val_snoc])
      clear hy
      generalize val (x.toNat % 64) (t.take k) = v at *
      go_wp2
      go_round
      case rel => exact ⟨k + 1, by omega, by go_num, by rw [HN.out]; go_num⟩
      case measure => simp [intOf]; omega
    · obtain rfl : k = s - 1 := by omega
      go_wp2
      go_ret3
      exact ⟨rfl, rfl⟩

set_option maxRecDepth 10000 in
set_option maxHeartbeats 400000 in
theorem take_one (b off n c : Nat) (x : UInt8) (w : World) (hc : n ≤ c) (hmax : c ≤ 9223372036854775807)
    (hx : w.cell? ⟨b, off, none⟩ = some (.int .u8 (x.toNat : Int))) (hx1 : (0 : Int) < (n : Int)) (hx2 : ((n : Int) == 0) = false) (hb : (x.toNat : Int) < 256) (hb0 : (0 : Int) ≤ (x.toNat : Int))
    (hs : wrap64 (2 ^ (x.toNat / 64)) = 1) :
    Calls Tryd.prog 59 #[.slice (some ⟨b, off, none⟩) n c] w fun e w' =>
      e = .returned (.tuple #[.int .u64 (x.toNat % 64 : Nat), .int .i64 1, .bool true]) ∧ w = w' := by
  by_cases h1 : c = 1
  · subst h1
    go_enter Tryd.func59, Tryd.ntmps59
    go_wp2
    refine wp_loop_rounds 1 ?_
    rw [rounds_succ]
    go_wp2
    go_ret3
    exact ⟨by simp [hs], rfl⟩
  · go_enter Tryd.func59, Tryd.ntmps59
    go_wp2
    refine wp_loop_rounds 1 ?_
    rw [rounds_succ]
    go_wp2
    go_ret3
    exact ⟨by simp [hs], rfl⟩

/-- varint.Take where a number begins. -/
theorem take_some {l : List UInt8} {n k : Nat} (h : tk l = some (n, k)) (A : Option Addr) (len c : Nat) (w : World) (B : Nat) (hl : l.length = len) (hr : Sl w B A l) (hc : len ≤ c) (hm : c ≤ maxLen) :
    Calls Tryd.prog 59 #[.slice A len c] w fun e w' => e = .returned (.tuple #[.int .u64 (n : Int), .int .i64 (k : Int), .bool true]) ∧ w = w' := by
  obtain ⟨x, t, rfl, rfl, hs, rfl⟩ := tk_some h
  simp only [List.length_cons] at hl
  subst hl
  obtain ⟨b, off, rfl, hb, hcell⟩ := hr.at_ (by simp)
  have hx := hcell 0 x rfl
  simp only [Nat.add_zero] at hx
  have hxl := x.toNat_lt
  have hw := wrap_cls x
  unfold maxLen at hm
  by_cases h1 : cls x = 1
  · rw [h1] at hw ⊢
    refine (take_one b off _ c x w hc (by omega) hx (by omega) (by rw [beq_eq_false_iff_ne]; omega) (by omega) (by omega) hw).mono ?_
    rintro e w' ⟨rfl, rfl⟩
    exact ⟨by simp [val], rfl⟩
  · have hp := cls_pos x
    have h8 := cls_le x
    exact take_yes b off _ c (cls x) x t w (by omega) hc (by omega) hx (by omega) (by rw [beq_eq_false_iff_ne]; omega) (by omega) (by omega) hw (by omega) h8 (Nat.le_refl _)
      (fun i y hy => by have := hcell (i + 1) y (by simpa using hy); rw [Nat.add_assoc, Nat.add_comm 1 i]; exact this)

/-- varint.Take where none begins. -/
theorem take_none {l : List UInt8} (h : tk l = none) (A : Option Addr) (len c : Nat) (w : World) (B : Nat) (hl : l.length = len) (hr : Sl w B A l) :
    Calls Tryd.prog 59 #[.slice A len c] w fun e w' => e = .returned (.tuple #[.int .u64 0, .int .i64 0, .bool false]) ∧ w = w' := by
  cases l with
  | nil =>
    simp only [List.length_nil] at hl
    subst hl
    exact take_empty A c w
  | cons x t =>
    have hs := tk_none h
    simp only [List.length_cons] at hl
    subst hl
    obtain ⟨b, off, rfl, hb, hcell⟩ := hr.at_ (by simp)
    have hx := hcell 0 x rfl
    simp only [Nat.add_zero] at hx
    have hxl := x.toNat_lt
    exact take_no b off _ c (cls x) x w hs (by omega) (by rw [beq_eq_false_iff_ne]; omega) hx (by omega) (wrap_cls x)

end Go.Proofs.YtkkojhkglcigmaaDoor
