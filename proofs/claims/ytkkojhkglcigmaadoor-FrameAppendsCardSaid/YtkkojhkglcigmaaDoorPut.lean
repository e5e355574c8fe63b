/-
  The walk through varint.put: a number's shortest bytes behind a slice of the call's own.
-/
import Derived.Test.YtkkojhkglcigmaaDoorSize
import Derived.Test.YtkkojhkglcigmaaDoorLaws
import Derived.BigQuiet
namespace Go.Proofs.YtkkojhkglcigmaaDoor
open Go.RowKit
set_option linter.unusedVariables false

theorem zeros_any (s c : Nat) (w : World) (hT : Tab w) (h : (s = 1 ∧ c = 0) ∨ (s = 2 ∧ c = 1) ∨ (s = 4 ∧ c = 2) ∨ (s = 8 ∧ c = 3)) :
    Calls Tryd.prog 58 #[.int .u64 (s : Int)] w fun e w' => e = .returned (.int .i64 (c : Int)) ∧ w = w' := by
  rcases h with ⟨rfl, rfl⟩ | ⟨rfl, rfl⟩ | ⟨rfl, rfl⟩ | ⟨rfl, rfl⟩
  · exact zeros1 w hT.1
  · exact zeros2 w hT.2.1
  · exact zeros4 w hT.2.2.1
  · exact zeros8 w hT.2.2.2

/-- What an append to a slice of the call's own leaves. -/
def Owns (w : World) (B len : Nat) (xs : List Value) (l : List UInt8) (e : Ending) (w' : World) : Prop :=
  ∃ v', e = .returned v' ∧ w'.ownsRow B 5 1 v' (len + l.length) (xs ++ l.map cell8) ∧ Below B w w'

set_option maxRecDepth 10000 in
set_option maxHeartbeats 400000 in
theorem put_any (B n N len s c : Nat) (sv : Value) (xs : List Value) (w : World) (hown : w.ownsRow B 5 1 sv len xs) (hB : B ≤ w.heap.size) (hT : Tab w) (hTB : 2 < B)
    (hs : szN n = s) (hc : (s = 1 ∧ c = 0) ∨ (s = 2 ∧ c = 1) ∨ (s = 4 ∧ c = 2) ∨ (s = 8 ∧ c = 3)) (hs1 : 1 ≤ s) (hs8 : s ≤ 8) (hc3 : c ≤ 3) (hlen : len ≤ 1048576)
    (hN : bits .or .u64 (n : Int) (IntKind.u64.wrap ((c : Int) * 2 ^ (8 * s - 2))) = (N : Int)) :
    Calls Tryd.prog 54 #[sv, .int .u64 (n : Int)] w (Owns w B len xs (be N s)) := by
  obtain ⟨i0, hi0, hz0, hz1, hz2⟩ := info_parts info8
  have HS := Lib.hid hs
  have HC := Lib.hid hc
  clear hs hc
  go_enter Tryd.func54, Tryd.ntmps54
  go_wp2_with (first
    | (go_at_call 31; refine (size_any n _).mono ?_; rintro e w' ⟨rfl, rfl⟩; rw [HS.out])
    | (go_at_call 58; refine (zeros_any s c _ hT HC.out).mono ?_; rintro e w' ⟨rfl, rfl⟩))
  go_loopw [0, 6] (fun vb va wr => ∃ (k : Nat) (pre : List UInt8), k ≤ s ∧ va = .int .i64 (8 * (k : Int) - 8) ∧ Hid (be N s = pre ++ be N k) ∧ pre.length + k = s ∧ wr.ownsRow B 5 1 vb (len + pre.length) (xs ++ pre.map cell8) ∧ Below B w wr)
    (fun _ va _ => (intOf va + 8).toNat)
  case atStart => exact ⟨s, [], Nat.le_refl _, rfl, Lib.hid rfl, by simp, by simpa using hown, Below.refl _ _⟩
  case round =>
    obtain ⟨k, pre, hk, rfl, hsplit, hpl, hown1, hbel⟩ := hrel
    have HP := Lib.hid hpl
    by_cases h0 : 1 ≤ k
    · obtain ⟨j, rfl⟩ : ∃ j, k = j + 1 := ⟨k - 1, by omega⟩
      have hp7 : pre.length ≤ 7 := by omega
      clear hpl
      go_wp2_with (at_builtin; refine wpList_append_sv _ rfl _ _ _ rfl B 5 i0 _ 1 Tryd.underlying22 hi0 hz0 hz1 hz2 rfl _ _ _ rfl (hown1.alloc _) _ _ 1 1 _ rfl (sv_new _ _ _) rfl (fun u hu => by simp at hu; subst hu; rfl) (by unfold maxLen; omega) (by omega) (by have := hbel.size; simp; omega) ?_; intro v1 w1 hown2 hg2 hat2)
      go_roundw
      case rel =>
        have hb2 : Below B w w1 := (hbel.alloc (by have := hbel.size; omega) _).grown hg2 (by have := hbel.size; simp; omega) (fun q hq => (hown1.lt q hq).1)
        have hlen' := HP.out
        refine ⟨j, pre ++ [UInt8.ofNat (N / 256 ^ j % 256)], by omega, by go_num, ?_, by simp; omega, ?_, hb2⟩
        · exact hsplit.out.trans (by simp [be])
        · rw [show 8 * (j + 1) - 8 = 8 * j by omega, be_cell] at hown2
          rw [List.length_append, List.length_singleton, List.map_append, ← Nat.add_assoc, ← List.append_assoc]
          exact hown2
      case measure => simp [intOf]; omega
    · obtain rfl : k = 0 := by omega
      go_wp2
      go_ret
      have he : be N s = pre := by have := hsplit.out; simpa [be] using this
      exact ⟨_, rfl, by rw [he]; exact hown1, hbel⟩
/-- varint.put: a number's shortest bytes. -/
theorem put_enc {n : Nat} (h : n ≤ 4611686018427387903) (B len : Nat) (sv : Value) (xs : List Value) (w : World) (hown : w.ownsRow B 5 1 sv len xs) (hB : B ≤ w.heap.size) (hT : Tab w) (hTB : 2 < B) (hlen : len ≤ 1048576) :
    Calls Tryd.prog 54 #[sv, .int .u64 (n : Int)] w (Owns w B len xs (enc n)) := by
  have hc := lg_cases h
  exact put_any B n (encN n) len (szN n) (lg n) sv xs w hown hB hT hTB rfl hc (by omega) (by omega) (by omega) hlen (or_size h)

end Go.Proofs.YtkkojhkglcigmaaDoor
