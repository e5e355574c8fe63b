/-
  The walks through varint.sizes and varint.Append.
-/
import Derived.Test.YtkkojhkglcigmaaDoorPut
namespace Go.Proofs.YtkkojhkglcigmaaDoor
open Go.RowKit
set_option linter.unusedVariables false

abbrev Sn (w : World) (B : Nat) (A : Option Addr) (l : List Nat) : Prop := Sv w B A (l.map cell64)

theorem Sn.at_ {w : World} {B : Nat} {A : Option Addr} {l : List Nat} (h : Sn w B A l) (hn : 0 < l.length) :
    ∃ b off, A = some ⟨b, off, none⟩ ∧ b < B ∧ ∀ (i x : Nat), l[i]? = some x → w.cell? ⟨b, off + i, none⟩ = some (.int .u64 (x : Int)) := by
  obtain ⟨b, off, hA, hb, hc⟩ := Sv.at_ h (by simpa using hn)
  exact ⟨b, off, hA, hb, fun i x hx => hc i (cell64 x) (by rw [List.getElem?_map, hx]; rfl)⟩

/-- Every number may be. -/
def May (l : List Nat) : Prop := ∀ i n : Nat, l[i]? = some n → n ≤ 4611686018427387903

def SizesTold (l : List Nat) (w : World) (e : Ending) (w' : World) : Prop :=
  (May l → e = .returned (.tuple #[.int .i64 (sumSz l : Nat), .bool true])) ∧ (¬ May l → e = .returned (.tuple #[.int .i64 0, .bool false])) ∧ w = w'

set_option maxRecDepth 10000 in
set_option maxHeartbeats 400000 in
theorem sizes_in (b off len c : Nat) (l : List Nat) (w : World) (hl : l.length = len) (hlen : len ≤ 1048576) (hc : ∀ i n : Nat, l[i]? = some n → w.cell? ⟨b, off + i, none⟩ = some (.int .u64 (n : Int))) :
    Calls Tryd.prog 53 #[.slice (some ⟨b, off, none⟩) len c] w (SizesTold l w) := by
  have HL := Lib.hid hl
  have HC := Lib.hid hc
  clear hl hc
  go_enter Tryd.func53, Tryd.ntmps53
  go_wp2
  go_loop [2, 9] (fun vs i => ∃ k : Nat, k ≤ len ∧ i = .int .i64 k ∧ vs = .int .i64 (sumSz (l.take k) : Nat) ∧ May (l.take k)) (fun _ i => len - (intOf i).toNat)
  case atStart => exact ⟨0, Nat.zero_le _, rfl, rfl, fun i n h => by simp at h⟩
  case round =>
    obtain ⟨k, hk, rfl, rfl, hmay⟩ := hrel
    by_cases hlt : k < len
    · obtain ⟨n, hn⟩ : ∃ n, l[k]? = some n := ⟨_, List.getElem?_eq_getElem (by rw [HL.out]; exact hlt)⟩
      have hcell := HC.out k n hn
      have hsum := sumSz_le (l.take k)
      have hl8 : (l.take k).length ≤ k := List.length_take_le _ _
      have hsz8 := szN_le n
      have HN := Lib.hid (show sumSz (l.take (k + 1)) = sumSz (l.take k) + szN n by rw [takeN_next l k n hn, sumSz_snoc])
      have HK := Lib.hid hn
      have HM := Lib.hid hmay
      clear hn hmay
      by_cases hmax : n ≤ 4611686018427387903
      · have hp := szN_pos hmax
        have hne : ((szN n : Int) == 0) = false := by rw [beq_eq_false_iff_ne]; omega
        have HX := Lib.hid hmax
        clear hmax
        generalize sumSz (l.take k) = q at *
        generalize hz : szN n = z at *
        have HZ := Lib.hid hz
        clear hz
        go_wp2_with (go_at_call 31; refine (size_any n _).mono ?_; rintro e w' ⟨rfl, rfl⟩; rw [HZ.out])
        go_round
        case rel =>
          refine ⟨k + 1, by omega, by go_num, by rw [HN.out]; go_num, fun i m hm => ?_⟩
          rw [takeN_next l k n HK.out, List.getElem?_append] at hm
          split at hm
          · exact HM.out i m hm
          · have : i - (l.take k).length = 0 := by
              rcases Nat.eq_zero_or_pos (i - (l.take k).length) with h0 | h0
              · exact h0
              · rw [List.getElem?_eq_none (by simp only [List.length_singleton]; omega)] at hm; cases hm
            rw [this] at hm
            simp at hm
            rw [← hm]
            exact HX.out
        case measure => simp [intOf]; omega
      · have hz := szN_0 hmax
        have HZ := Lib.hid hz
        have HX := Lib.hid hmax
        clear hz hmax hsz8
        go_wp2_with (go_at_call 31; refine (size_any n _).mono ?_; rintro e w' ⟨rfl, rfl⟩; rw [HZ.out])
        go_ret2
        exact ⟨fun h => absurd (h k n HK.out) HX.out, fun _ => rfl, rfl⟩
    · obtain rfl : k = len := by omega
      have ht : l.take k = l := List.take_of_length_le (by rw [HL.out]; exact Nat.le_refl _)
      rw [ht] at hmay ⊢
      have HM := Lib.hid hmay
      clear hmay ht
      go_wp2
      go_ret2
      exact ⟨fun _ => rfl, fun h => absurd HM.out h, rfl⟩

set_option maxRecDepth 10000 in
set_option maxHeartbeats 400000 in
theorem sizes_empty (A : Option Addr) (c : Nat) (w : World) : Calls Tryd.prog 53 #[.slice A 0 c] w fun e w' => e = .returned (.tuple #[.int .i64 0, .bool true]) ∧ w = w' := by
  go_enter Tryd.func53, Tryd.ntmps53
  go_wp2
  refine wp_loop_rounds 1 ?_
  rw [rounds_succ]
  go_wp2
  go_ret2
  exact ⟨rfl, rfl⟩

theorem sizes_any (A : Option Addr) (len c : Nat) (l : List Nat) (w : World) (B : Nat) (hl : l.length = len) (hr : Sn w B A l) (hlen : len ≤ 1048576) :
    Calls Tryd.prog 53 #[.slice A len c] w (SizesTold l w) := by
  by_cases h0 : len = 0
  · subst h0
    obtain rfl : l = [] := List.eq_nil_of_length_eq_zero hl
    refine (sizes_empty A c w).mono ?_
    rintro e w' ⟨rfl, rfl⟩
    exact ⟨fun _ => rfl, fun h => absurd (fun i n hn => by simp at hn) h, rfl⟩
  · obtain ⟨b, off, rfl, hb, hc⟩ := Sn.at_ hr (by omega)
    exact sizes_in b off len c l w hl hlen hc

set_option maxRecDepth 10000 in
set_option maxHeartbeats 400000 in
/-- varint.Append where a number may not be. -/
theorem append_bad (A : Option Addr) (len c : Nat) (A2 : Option Addr) (len2 c2 : Nat) (l : List Nat) (w : World) (B : Nat) (hl : l.length = len2) (hr : Sn w B A2 l) (hlen : len2 ≤ 1048576) (hbad : ¬ May l) :
    Calls Tryd.prog 41 #[.slice A len c, .slice A2 len2 c2] w fun e w' => e = .returned (.tuple #[.slice none 0 0, .int .i64 5]) ∧ w = w' := by
  have HL := Lib.hid hl
  have HB := Lib.hid hbad
  clear hl hbad
  go_enter Tryd.func41, Tryd.ntmps41
  go_wp2_with (go_at_call 53; refine (sizes_any A2 len2 c2 l _ B HL.out hr hlen).mono ?_; rintro e w' ⟨_, hno, rfl⟩; obtain rfl := hno HB.out; clear hno)
  go_ret2
  exact ⟨rfl, rfl⟩

set_option maxRecDepth 10000 in
set_option maxHeartbeats 800000 in
/-- varint.Append where all may be. -/
theorem append_ok (A : Option Addr) (len c : Nat) (A2 : Option Addr) (len2 c2 : Nat) (b : List UInt8) (l : List Nat) (w : World) (B : Nat) (hlb : b.length = len) (hrb : Sl w B A b) (hl : l.length = len2) (hr : Sn w B A2 l)
    (hB : B ≤ w.heap.size) (hlenb : len ≤ 65536) (hlen : len2 ≤ 65536) (hmay : May l) (hT : Tab w) :
    Calls Tryd.prog 41 #[.slice A len c, .slice A2 len2 c2] w (Gave w (b ++ encs l) fun v => .tuple #[v, .int .i64 0]) := by
  obtain ⟨i0, hi0, hz0, hz1, hz2⟩ := info_parts info8
  have HL := Lib.hid hl
  have HLB := Lib.hid hlb
  have HM := Lib.hid hmay
  have hsum := sumSz_le l
  rw [hl] at hsum
  clear hl hmay hlb
  generalize hq : sumSz l = q at *
  have HQ := Lib.hid hq
  clear hq
  go_enter Tryd.func41, Tryd.ntmps41
  go_wp2_with (first
    | (go_at_call 53; refine (sizes_any A2 len2 c2 l _ B HL.out hr (by omega)).mono ?_; rintro e w' ⟨hyes, _, rfl⟩; obtain rfl := hyes HM.out; clear hyes; rw [HQ.out])
    | (at_make; (refine wpList_make_own _ rfl _ _ _ rfl w.heap.size 5 i0 _ 1 Tryd.underlying22 hi0 hz0 hz1 _ _ _ (len + q) rfl rfl (by omega) (by rw [hz2]; omega) (by unfold maxLen; omega) (Nat.le_refl _) ?_); intro w1 hown1 hg1; have hb1 : Below w.heap.size w w1 := (Below.refl _ _).grown hg1 (Nat.le_refl _) (by simp))
    | (at_builtin; (refine wpList_append_sv _ rfl _ _ _ rfl w.heap.size 5 i0 _ 1 Tryd.underlying22 hi0 hz0 hz1 hz2 rfl (.slice (some ⟨w.heap.size, 0, none⟩) 0 (len + q)) 0 [] rfl hown1 B _ _ _ _ rfl (Sv.keep hrb (Nat.le_refl _) (fun p hp => hb1.cell (by omega))) ((List.length_map _).trans HLB.out) (cell8_one _) (by unfold maxLen; omega) (by omega) hb1.size ?_); intro v2 w2 hown2 hg2 hat2))
  have hb2 : Below w.heap.size w w2 := hb1.grown hg2 hb1.size (fun g hg => by simp [Value.ownBlock] at hg; omega)
  rw [Nat.zero_add, List.nil_append] at hown2
  clear hg1 hg2 hat2 hown1
  have hmayk : ∀ k n : Nat, l[k]? = some n → n ≤ 4611686018427387903 := HM.out
  have HMK := Lib.hid hmayk
  clear hmayk
  go_loopw [8, 28] (fun v i wr => ∃ k : Nat, k ≤ len2 ∧ i = .int .i64 k ∧ wr.ownsRow w.heap.size 5 1 v (len + (encs (l.take k)).length) (b.map cell8 ++ (encs (l.take k)).map cell8) ∧ Below w.heap.size w wr) (fun _ i _ => len2 - (intOf i).toNat)
  case atStart => exact ⟨0, Nat.zero_le _, rfl, by simpa [encs] using hown2, hb2⟩
  case round =>
    obtain ⟨k, hk, rfl, hownk, hbk⟩ := hrel
    by_cases hlt : k < len2
    · obtain ⟨n, hn⟩ : ∃ n, l[k]? = some n := ⟨_, List.getElem?_eq_getElem (by rw [HL.out]; exact hlt)⟩
      obtain ⟨b2, off2, rfl, hb2', hc2⟩ := Sn.at_ hr (by rw [HL.out]; omega)
      have hcell : wr.cell? ⟨b2, off2 + k, none⟩ = some (.int .u64 (n : Int)) := (hbk.cell (p := ⟨b2, off2 + k, none⟩) (Nat.lt_of_lt_of_le hb2' hB)).trans (hc2 k n hn)
      have hle : len + (encs (l.take k)).length ≤ 1048576 := by
        have h1 := encs_length (l.take k)
        have h2 := sumSz_le (l.take k)
        have h3 : (l.take k).length ≤ k := List.length_take_le _ _
        omega
      have HT := Lib.hid (hT.below hbk hT.lt)
      have HPut := Lib.hid (fun sv (hown : wr.ownsRow w.heap.size 5 1 sv (len + (encs (l.take k)).length) (b.map cell8 ++ (encs (l.take k)).map cell8)) => put_enc (HMK.out k n hn) w.heap.size _ sv _ wr hown hbk.size HT.out hT.lt hle)
      have HN := Lib.hid (show encs (l.take (k + 1)) = encs (l.take k) ++ enc n by rw [takeN_next l k n hn, encs_snoc])
      have HO := Lib.hid hownk
      clear hc2 hn hown2 hownk hle
      go_wp2_with (go_at_call 54; refine (HPut.out _ HO.out).mono ?_; rintro e w3 ⟨v3, rfl, hown3, hbel3⟩)
      have hb3 : Below w.heap.size w w3 := hbk.trans hbel3
      go_roundw
      case rel =>
        refine ⟨k + 1, by omega, by go_num, ?_, hb3⟩
        rw [HN.out, List.length_append, List.map_append, ← Nat.add_assoc, ← List.append_assoc]
        exact hown3
      case measure => simp [intOf]; omega
    · obtain rfl : k = len2 := by omega
      have ht : l.take k = l := List.take_of_length_le (by rw [HL.out]; exact Nat.le_refl _)
      rw [ht] at hownk
      have HO := Lib.hid hownk
      clear hownk ht hown2
      go_wp2
      have hown := HO.out
      have hll : len + (encs l).length = (b ++ encs l).length := by rw [List.length_append, HLB.out]
      rw [hll, ← List.map_append] at hown
      obtain ⟨A', c', rfl, q1, q2⟩ := own_form hown
      go_ret2
      exact ⟨A', c', rfl, q1, q2, hown, hbk⟩

theorem encs_one (n : Nat) : encs [n] = enc n := by simp [encs]

theorem may_one {n : Nat} (h : n ≤ 4611686018427387903) : May [n] := by
  intro i m hm
  cases i with
  | zero => simp at hm; omega
  | succ i => simp at hm

end Go.Proofs.YtkkojhkglcigmaaDoor
