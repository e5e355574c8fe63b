/-
  The walks through varint.sizes and varint.Append.
  The walk through varint.Take: it answers the number with whose bytes a slice begins, and how many they are, and leaves the world alone.
-/
import Derived.Test.YtbnnjkjmadnjkaaDoorSk17
import Derived.Test.YtbnnjkjmadnjkaaDoorRows
import Derived.WalkSpells
import Derived.WalkLawsBesides
import Derived.Test.YtbnnjkjmadnjkaaDoorSk0
namespace Go.Proofs.YtbnnjkjmadnjkaaDoor
section
open Go.RowKit
set_option linter.unusedVariables false

abbrev Sn (w : World) (B : Nat) (A : Option Addr) (l : List Nat) : Prop := Sv w B A (l.map cell64)

theorem Sn.at_ {w : World} {B : Nat} {A : Option Addr} {l : List Nat} (h : Sn w B A l) (hn : 0 < l.length) :
    ∃ b off, A = some ⟨b, off, none⟩ ∧ b < B ∧ ∀ (i x : Nat), l[i]? = some x → w.cell? ⟨b, off + i, none⟩ = some (.int .u64 (x : Int)) := by
  obtain ⟨b, off, hA, hb, hc⟩ := Sv.at_ h (by simpa using hn)
  exact ⟨b, off, hA, hb, fun i x hx => hc i (cell64 x) (by rw [List.getElem?_map, hx]; rfl)⟩

/-- Every number may be. -/
def May (l : List Nat) : Prop := ∀ i n : Nat, l[i]? = some n → n ≤ 4611686018427387903

def SizesTold (l : List Nat) (w : World) (e : Ending) (w' : World) : Prop :=
  (May l → e = .returned (.tuple #[.int .i64 (sumSz l : Nat), .bool true])) ∧ (¬ May l → e = .returned (.tuple #[.int .i64 0, .bool false])) ∧ w = w'

set_option maxRecDepth 10000 in
set_option maxHeartbeats 400000 in
theorem sizes_in (b off len c : Nat) (l : List Nat) (w : World) (hl : l.length = len) (hlen : len ≤ 1048576) (hc : ∀ i n : Nat, l[i]? = some n → w.cell? ⟨b, off + i, none⟩ = some (.int .u64 (n : Int))) :
    Calls Tryd.prog 76 #[.slice (some ⟨b, off, none⟩) len c] w (SizesTold l w) := by
  have HL := Lib.hid hl
  have HC := Lib.hid hc
  clear hl hc
  go_enter Tryd.func76, Tryd.ntmps76
  go_wp2
  go_loop [2, 9] (fun vs i => ∃ k : Nat, k ≤ len ∧ i = .int .i64 k ∧ vs = .int .i64 (sumSz (l.take k) : Nat) ∧ May (l.take k)) (fun _ i => len - (intOf i).toNat)
  case atStart => exact ⟨0, Nat.zero_le _, rfl, rfl, fun i n h => by simp at h⟩
  case round =>
    obtain ⟨k, hk, rfl, rfl, hmay⟩ := hrel
    by_cases hlt : k < len
    · obtain ⟨n, hn⟩ : ∃ n, l[k]? = some n := ⟨_, List.getElem?_eq_getElem (by rw [HL.out]; exact hlt)⟩
      have hcell := HC.out k n hn
      have hsum := sumSz_le (l.take k)
      have hl8 : (l.take k).length ≤ k := List.length_take_le _ _
      have hsz8 := szN_le n
      have HN := Lib.hid (show sumSz (l.take (k + 1)) = sumSz (l.take k) + szN n by rw [takeN_next l k n hn, sumSz_snoc])
      have HK := Lib.hid hn
      have HM := Lib.hid hmay
      clear hn hmay
      by_cases hmax : n ≤ 4611686018427387903
      · have hp := szN_pos hmax
        have hne : ((szN n : Int) == 0) = false := by rw [beq_eq_false_iff_ne]; omega
        have HX := Lib.hid hmax
        clear hmax
        generalize sumSz (l.take k) = q at *
        generalize hz : szN n = z at *
        have HZ := Lib.hid hz
        clear hz
        go_wp2_with (go_at_call 88; refine (size_any n _).mono ?_; rintro e w' ⟨rfl, rfl⟩; rw [HZ.out])
        go_round
        case rel =>
          refine ⟨k + 1, by omega, by go_num, by rw [HN.out]; go_num, fun i m hm => ?_⟩
          rw [takeN_next l k n HK.out, List.getElem?_append] at hm
          split at hm
          · exact HM.out i m hm
          · have : i - (l.take k).length = 0 := by
              rcases Nat.eq_zero_or_pos (i - (l.take k).length) with h0 | h0
              · exact h0
              · rw [List.getElem?_eq_none (by simp only [List.length_singleton]; omega)] at hm; cases hm
            rw [this] at hm
            simp at hm
            rw [← hm]
            exact HX.out
        case measure => simp [intOf]; omega
      · have hz := szN_0 hmax
        have HZ := Lib.hid hz
        have HX := Lib.hid hmax
        clear hz hmax hsz8
        go_wp2_with (go_at_call 88; refine (size_any n _).mono ?_; rintro e w' ⟨rfl, rfl⟩; rw [HZ.out])
        go_ret2
        exact ⟨fun h => absurd (h k n HK.out) HX.out, fun _ => rfl, rfl⟩
    · obtain rfl : k = len := by omega
      have ht : l.take k = l := List.take_of_length_le (by rw [HL.out]; exact Nat.le_refl _)
      rw [ht] at hmay ⊢
      have HM := Lib.hid hmay
      clear hmay ht
      go_wp2
      go_ret2
      exact ⟨fun _ => rfl, fun h => absurd HM.out h, rfl⟩

set_option maxRecDepth 10000 in
set_option maxHeartbeats 400000 in
theorem sizes_empty (A : Option Addr) (c : Nat) (w : World) : Calls Tryd.prog 76 #[.slice A 0 c] w fun e w' => e = .returned (.tuple #[.int .i64 0, .bool true]) ∧ w = w' := by
  go_enter Tryd.func76, Tryd.ntmps76
  go_wp2
  refine wp_loop_rounds 1 ?_
  rw [rounds_succ]
  go_wp2
  go_ret2
  exact ⟨rfl, rfl⟩

theorem sizes_any (A : Option Addr) (len c : Nat) (l : List Nat) (w : World) (B : Nat) (hl : l.length = len) (hr : Sn w B A l) (hlen : len ≤ 1048576) :
    Calls Tryd.prog 76 #[.slice A len c] w (SizesTold l w) := by
  by_cases h0 : len = 0
  · subst h0
    obtain rfl : l = [] := List.eq_nil_of_length_eq_zero hl
    refine (sizes_empty A c w).mono ?_
    rintro e w' ⟨rfl, rfl⟩
    exact ⟨fun _ => rfl, fun h => absurd (fun i n hn => by simp at hn) h, rfl⟩
  · obtain ⟨b, off, rfl, hb, hc⟩ := Sn.at_ hr (by omega)
    exact sizes_in b off len c l w hl hlen hc

set_option maxRecDepth 10000 in
set_option maxHeartbeats 400000 in
/-- varint.Append where a number may not be. -/
theorem append_bad (A : Option Addr) (len c : Nat) (A2 : Option Addr) (len2 c2 : Nat) (l : List Nat) (w : World) (B : Nat) (hl : l.length = len2) (hr : Sn w B A2 l) (hlen : len2 ≤ 1048576) (hbad : ¬ May l) :
    Calls Tryd.prog 56 #[.slice A len c, .slice A2 len2 c2] w fun e w' => e = .returned (.tuple #[.slice none 0 0, .int .i64 5]) ∧ w = w' := by
  have HL := Lib.hid hl
  have HB := Lib.hid hbad
  clear hl hbad
  go_enter Tryd.func56, Tryd.ntmps56
  go_wp2_with (go_at_call 76; refine (sizes_any A2 len2 c2 l _ B HL.out hr hlen).mono ?_; rintro e w' ⟨_, hno, rfl⟩; obtain rfl := hno HB.out; clear hno)
  go_ret2
  exact ⟨rfl, rfl⟩

set_option maxRecDepth 10000 in
set_option maxHeartbeats 800000 in
/-- varint.Append where all may be. -/
theorem append_ok (A : Option Addr) (len c : Nat) (A2 : Option Addr) (len2 c2 : Nat) (b : List UInt8) (l : List Nat) (w : World) (B : Nat) (hlb : b.length = len) (hrb : Sl w B A b) (hl : l.length = len2) (hr : Sn w B A2 l)
    (hB : B ≤ w.heap.size) (hlenb : len ≤ 65536) (hlen : len2 ≤ 65536) (hmay : May l) (hT : Tab w) :
    Calls Tryd.prog 56 #[.slice A len c, .slice A2 len2 c2] w (Gave w (b ++ encs l) fun v => .tuple #[v, .int .i64 0]) := by
  obtain ⟨i0, hi0, hz0, hz1, hz2⟩ := info_parts info8V
  have HL := Lib.hid hl
  have HLB := Lib.hid hlb
  have HM := Lib.hid hmay
  have hsum := sumSz_le l
  rw [hl] at hsum
  clear hl hmay hlb
  generalize hq : sumSz l = q at *
  have HQ := Lib.hid hq
  clear hq
  go_enter Tryd.func56, Tryd.ntmps56
  go_wp2_with (first
    | (go_at_call 76; refine (sizes_any A2 len2 c2 l _ B HL.out hr (by omega)).mono ?_; rintro e w' ⟨hyes, _, rfl⟩; obtain rfl := hyes HM.out; clear hyes; rw [HQ.out])
    | (at_make; (refine wpList_make_own _ rfl _ _ _ rfl w.heap.size 5 i0 _ 1 Tryd.underlying28 hi0 hz0 hz1 _ _ _ (len + q) rfl rfl (by omega) (by rw [hz2]; omega) (by unfold maxLen; omega) (Nat.le_refl _) ?_); intro w1 hown1 hg1; have hb1 : Below w.heap.size w w1 := (Below.refl _ _).grown hg1 (Nat.le_refl _) (by simp))
    | (at_builtin; (refine wpList_append_sv _ rfl _ _ _ rfl w.heap.size 5 i0 _ 1 Tryd.underlying28 hi0 hz0 hz1 hz2 rfl (.slice (some ⟨w.heap.size, 0, none⟩) 0 (len + q)) 0 [] rfl hown1 B _ _ _ _ rfl (Sv.keep hrb (Nat.le_refl _) (fun p hp => hb1.cell (by omega))) ((List.length_map _).trans HLB.out) (cell8_one _) (by unfold maxLen; omega) (by omega) hb1.size ?_); intro v2 w2 hown2 hg2 hat2))
  have hb2 : Below w.heap.size w w2 := hb1.grown hg2 hb1.size (fun g hg => by simp [Value.ownBlock] at hg; omega)
  rw [Nat.zero_add, List.nil_append] at hown2
  clear hg1 hg2 hat2 hown1
  have hmayk : ∀ k n : Nat, l[k]? = some n → n ≤ 4611686018427387903 := HM.out
  have HMK := Lib.hid hmayk
  clear hmayk
  go_loopw [8, 28] (fun v i wr => ∃ k : Nat, k ≤ len2 ∧ i = .int .i64 k ∧ wr.ownsRow w.heap.size 5 1 v (len + (encs (l.take k)).length) (b.map cell8 ++ (encs (l.take k)).map cell8) ∧ Below w.heap.size w wr) (fun _ i _ => len2 - (intOf i).toNat)
  case atStart => exact ⟨0, Nat.zero_le _, rfl, by simpa [encs] using hown2, hb2⟩
  case round =>
    obtain ⟨k, hk, rfl, hownk, hbk⟩ := hrel
    by_cases hlt : k < len2
    · obtain ⟨n, hn⟩ : ∃ n, l[k]? = some n := ⟨_, List.getElem?_eq_getElem (by rw [HL.out]; exact hlt)⟩
      obtain ⟨b2, off2, rfl, hb2', hc2⟩ := Sn.at_ hr (by rw [HL.out]; omega)
      have hcell : wr.cell? ⟨b2, off2 + k, none⟩ = some (.int .u64 (n : Int)) := (hbk.cell (p := ⟨b2, off2 + k, none⟩) (Nat.lt_of_lt_of_le hb2' hB)).trans (hc2 k n hn)
      have hle : len + (encs (l.take k)).length ≤ 1048576 := by
        have h1 := encs_length (l.take k)
        have h2 := sumSz_le (l.take k)
        have h3 : (l.take k).length ≤ k := List.length_take_le _ _
        omega
      have HT := Lib.hid (hT.below hbk hT.lt)
      have HPut := Lib.hid (fun sv (hown : wr.ownsRow w.heap.size 5 1 sv (len + (encs (l.take k)).length) (b.map cell8 ++ (encs (l.take k)).map cell8)) => put_enc (HMK.out k n hn) w.heap.size _ sv _ wr hown hbk.size HT.out hT.lt hle)
      have HN := Lib.hid (show encs (l.take (k + 1)) = encs (l.take k) ++ enc n by rw [takeN_next l k n hn, encs_snoc])
      have HO := Lib.hid hownk
      clear hc2 hn hown2 hownk hle
      go_wp2_with (go_at_call 77; refine (HPut.out _ HO.out).mono ?_; rintro e w3 ⟨v3, rfl, hown3, hbel3⟩)
      have hb3 : Below w.heap.size w w3 := hbk.trans hbel3
      go_roundw
      case rel =>
        refine ⟨k + 1, by omega, by go_num, ?_, hb3⟩
        rw [HN.out, List.length_append, List.map_append, ← Nat.add_assoc, ← List.append_assoc]
        exact hown3
      case measure => simp [intOf]; omega
    · obtain rfl : k = len2 := by omega
      have ht : l.take k = l := List.take_of_length_le (by rw [HL.out]; exact Nat.le_refl _)
      rw [ht] at hownk
      have HO := Lib.hid hownk
      clear hownk ht hown2
      go_wp2
      have hown := HO.out
      have hll : len + (encs l).length = (b ++ encs l).length := by rw [List.length_append, HLB.out]
      rw [hll, ← List.map_append] at hown
      obtain ⟨A', c', rfl, q1, q2⟩ := own_form hown
      go_ret2
      exact ⟨A', c', rfl, q1, q2, hown, hbk⟩

theorem encs_one (n : Nat) : encs [n] = enc n := by simp [encs]

theorem may_one {n : Nat} (h : n ≤ 4611686018427387903) : May [n] := by
  intro i m hm
  cases i with
  | zero => simp at hm; omega
  | succ i => simp at hm
end

section
open Go.RowKit
set_option linter.unusedVariables false

theorem wrap_cls (x : UInt8) : wrap64 (2 ^ (x.toNat / 64)) = (cls x : Int) := by
  rcases cls_cases x with ⟨h, hc⟩ | ⟨h, hc⟩ | ⟨h, hc⟩ | ⟨h, hc⟩ <;> rw [h, hc] <;> exact IntWalk.wrap64_in _ ⟨by decide, by decide⟩

set_option maxRecDepth 10000 in
set_option maxHeartbeats 400000 in
theorem take_empty (A : Option Addr) (c : Nat) (w : World) :
    Calls Tryd.prog 83 #[.slice A 0 c] w fun e w' => e = .returned (.tuple #[.int .u64 0, .int .i64 0, .bool false]) ∧ w = w' := by
  go_enter Tryd.func83, Tryd.ntmps83
  go_wp2
  go_ret3
  exact ⟨rfl, rfl⟩

set_option maxRecDepth 10000 in
set_option maxHeartbeats 400000 in
theorem take_no (b off n c s : Nat) (x : UInt8) (w : World) (hn : n < s) (hx1 : (0 : Int) < (n : Int)) (hx2 : ((n : Int) == 0) = false)
    (hx : w.cell? ⟨b, off, none⟩ = some (.int .u8 (x.toNat : Int))) (hb : (x.toNat : Int) < 256)
    (hs : wrap64 (2 ^ (x.toNat / 64)) = (s : Int)) :
    Calls Tryd.prog 83 #[.slice (some ⟨b, off, none⟩) n c] w fun e w' => e = .returned (.tuple #[.int .u64 0, .int .i64 0, .bool false]) ∧ w = w' := by
  go_enter Tryd.func83, Tryd.ntmps83
  go_wp2
  go_ret3
  exact ⟨rfl, rfl⟩

set_option maxRecDepth 10000 in
set_option maxHeartbeats 400000 in
theorem take_yes (b off n c s : Nat) (x : UInt8) (t : List UInt8) (w : World) (hn : s ≤ n) (hc : n ≤ c) (hmax : c ≤ 9223372036854775807)
    (hx : w.cell? ⟨b, off, none⟩ = some (.int .u8 (x.toNat : Int))) (hx1 : (0 : Int) < (n : Int)) (hx2 : ((n : Int) == 0) = false) (hb : (x.toNat : Int) < 256) (hb0 : (0 : Int) ≤ (x.toNat : Int))
    (hs : wrap64 (2 ^ (x.toNat / 64)) = (s : Int)) (hs1 : 2 ≤ s) (hs8 : s ≤ 8) (hl : n ≤ t.length + 1)
    (ht : ∀ i y, t[i]? = some y → w.cell? ⟨b, off + 1 + i, none⟩ = some (.int .u8 (y.toNat : Int))) :
    Calls Tryd.prog 83 #[.slice (some ⟨b, off, none⟩) n c] w fun e w' =>
      e = .returned (.tuple #[.int .u64 (val (x.toNat % 64) (t.take (s - 1)) : Nat), .int .i64 s, .bool true]) ∧ w = w' := by
  go_enter Tryd.func83, Tryd.ntmps83
  have HT := Lib.hid ht
  clear ht
  go_wp2
  go_loop [2, 29] (fun v i => ∃ k : Nat, k ≤ s - 1 ∧ i = .int .i64 k ∧ v = .int .u64 (val (x.toNat % 64) (t.take k) : Nat)) (fun _ i => s - (intOf i).toNat)
  case atStart => exact ⟨0, by omega, rfl, by simp [val]⟩
  case round =>
    obtain ⟨k, hk, rfl, rfl⟩ := hrel
    by_cases hlt : k < s - 1
    · have hkt : k < t.length := by omega
      obtain ⟨y, hy⟩ : ∃ y, t[k]? = some y := ⟨_, List.getElem?_eq_getElem hkt⟩
      have hcy := HT.out k y hy
      have hv := val_step_lt6 x (t.take k) (by rw [List.length_take]; omega)
      have hor := or_byte _ y hv
      have hty := y.toNat_lt
      have HN := Lib.hid (show val (x.toNat % 64) (t.take (k + 1)) = 256 * val (x.toNat % 64) (t.take k) + y.toNat by rw [take_next t k y hy, val_snoc])
      clear hy
      generalize val (x.toNat % 64) (t.take k) = v at *
      go_wp2
      go_round
      case rel => exact ⟨k + 1, by omega, by go_num, by rw [HN.out]; go_num⟩
      case measure => simp [intOf]; omega
    · obtain rfl : k = s - 1 := by omega
      go_wp2
      go_ret3
      exact ⟨rfl, rfl⟩

set_option maxRecDepth 10000 in
set_option maxHeartbeats 400000 in
theorem take_oneV (b off n c : Nat) (x : UInt8) (w : World) (hc : n ≤ c) (hmax : c ≤ 9223372036854775807)
    (hx : w.cell? ⟨b, off, none⟩ = some (.int .u8 (x.toNat : Int))) (hx1 : (0 : Int) < (n : Int)) (hx2 : ((n : Int) == 0) = false) (hb : (x.toNat : Int) < 256) (hb0 : (0 : Int) ≤ (x.toNat : Int))
    (hs : wrap64 (2 ^ (x.toNat / 64)) = 1) :
    Calls Tryd.prog 83 #[.slice (some ⟨b, off, none⟩) n c] w fun e w' =>
      e = .returned (.tuple #[.int .u64 (x.toNat % 64 : Nat), .int .i64 1, .bool true]) ∧ w = w' := by
  by_cases h1 : c = 1
  · subst h1
    go_enter Tryd.func83, Tryd.ntmps83
    go_wp2
    refine wp_loop_rounds 1 ?_
    rw [rounds_succ]
    go_wp2
    go_ret3
    exact ⟨by simp [hs], rfl⟩
  · go_enter Tryd.func83, Tryd.ntmps83
    go_wp2
    refine wp_loop_rounds 1 ?_
    rw [rounds_succ]
    go_wp2
    go_ret3
    exact ⟨by simp [hs], rfl⟩

/-- varint.Take where a number begins. -/
theorem take_some {l : List UInt8} {n k : Nat} (h : tk l = some (n, k)) (A : Option Addr) (len c : Nat) (w : World) (B : Nat) (hl : l.length = len) (hr : Sl w B A l) (hc : len ≤ c) (hm : c ≤ maxLen) :
    Calls Tryd.prog 83 #[.slice A len c] w fun e w' => e = .returned (.tuple #[.int .u64 (n : Int), .int .i64 (k : Int), .bool true]) ∧ w = w' := by
  obtain ⟨x, t, rfl, rfl, hs, rfl⟩ := tk_some h
  simp only [List.length_cons] at hl
  subst hl
  obtain ⟨b, off, rfl, hb, hcell⟩ := hr.at_ (by simp)
  have hx := hcell 0 x rfl
  simp only [Nat.add_zero] at hx
  have hxl := x.toNat_lt
  have hw := wrap_cls x
  unfold maxLen at hm
  by_cases h1 : cls x = 1
  · rw [h1] at hw ⊢
    refine (take_oneV b off _ c x w hc (by omega) hx (by omega) (by rw [beq_eq_false_iff_ne]; omega) (by omega) (by omega) hw).mono ?_
    rintro e w' ⟨rfl, rfl⟩
    exact ⟨by simp [val], rfl⟩
  · have hp := cls_pos x
    have h8 := cls_le x
    exact take_yes b off _ c (cls x) x t w (by omega) hc (by omega) hx (by omega) (by rw [beq_eq_false_iff_ne]; omega) (by omega) (by omega) hw (by omega) h8 (Nat.le_refl _)
      (fun i y hy => by have := hcell (i + 1) y (by simpa using hy); rw [Nat.add_assoc, Nat.add_comm 1 i]; exact this)

/-- varint.Take where none begins. -/
theorem take_none {l : List UInt8} (h : tk l = none) (A : Option Addr) (len c : Nat) (w : World) (B : Nat) (hl : l.length = len) (hr : Sl w B A l) :
    Calls Tryd.prog 83 #[.slice A len c] w fun e w' => e = .returned (.tuple #[.int .u64 0, .int .i64 0, .bool false]) ∧ w = w' := by
  cases l with
  | nil =>
    simp only [List.length_nil] at hl
    subst hl
    exact take_empty A c w
  | cons x t =>
    have hs := tk_none h
    simp only [List.length_cons] at hl
    subst hl
    obtain ⟨b, off, rfl, hb, hcell⟩ := hr.at_ (by simp)
    have hx := hcell 0 x rfl
    simp only [Nat.add_zero] at hx
    have hxl := x.toNat_lt
    exact take_no b off _ c (cls x) x w hs (by omega) (by rw [beq_eq_false_iff_ne]; omega) hx (by omega) (wrap_cls x)
end
end Go.Proofs.YtbnnjkjmadnjkaaDoor
