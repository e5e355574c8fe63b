/-
  The walk through hostlerlaw01.VarintAppends.
-/
import Derived.Test.YtbkdjnppgdjnaaaDoorKnown
import Derived.Test.YtbkdjnppgdjnaaaDoorRefBytes
namespace Go.Proofs.YtbkdjnppgdjnaaaDoor
open Go.RowKit
set_option linter.unusedVariables false

/-- Every number may be, as a test. -/
def mayB (l : List Nat) : Bool := l.all fun n => decide (n ≤ 4611686018427387903)

theorem mayB_snoc (l : List Nat) (n : Nat) : mayB (l ++ [n]) = (mayB l && decide (n ≤ 4611686018427387903)) := by simp [mayB]

theorem may_iff (l : List Nat) : mayB l = true ↔ May l := by
  unfold mayB May
  rw [List.all_eq_true]
  constructor
  · intro h i n hn
    exact of_decide_eq_true (h n (List.mem_of_getElem? hn))
  · intro h n hn
    obtain ⟨i, hi, he⟩ := List.getElem_of_mem hn
    exact decide_eq_true (h i n (by rw [List.getElem?_eq_getElem hi, he]))

theorem strB_append (a b : List UInt8) : strB a ++ strB b = strB (a ++ b) := by
  apply ByteArray.ext
  simp [strB]

theorem strB_size (a : List UInt8) : (strB a).size = a.length := by simp [strB, ByteArray.size]

theorem enc_none {n : Nat} (h : ¬ n ≤ 4611686018427387903) : enc n = [] := by
  unfold enc
  rw [szN_0 h]
  rfl

set_option maxRecDepth 10000 in
set_option maxHeartbeats 400000 in
theorem appends_long (A : Option Addr) (len c : Nat) (A2 : Option Addr) (len2 c2 : Nat) (w : World) (hT : Tab w) (hlen : (1000 : Int) < (len : Int)) :
    Calls Tryd.prog 4 #[.slice A len c, .slice A2 len2 c2] w fun e w' => e = .returned (.bool true) ∧ Below w.heap.size w w' := by
  go_enter Tryd.func4, Tryd.ntmps4
  go_wp2_with (go_at_call 6; refine (known_any _ hT).mono ?_; rintro e w0 ⟨rfl, hb0⟩)
  go_ret
  exact ⟨rfl, hb0⟩

set_option maxRecDepth 10000 in
set_option maxHeartbeats 400000 in
theorem appends_many (A : Option Addr) (len c : Nat) (A2 : Option Addr) (len2 c2 : Nat) (w : World) (hT : Tab w) (hlen : (len : Int) ≤ (1000 : Int)) (hlen2 : (300 : Int) < (len2 : Int)) :
    Calls Tryd.prog 4 #[.slice A len c, .slice A2 len2 c2] w fun e w' => e = .returned (.bool true) ∧ Below w.heap.size w w' := by
  go_enter Tryd.func4, Tryd.ntmps4
  go_wp2_with (go_at_call 6; refine (known_any _ hT).mono ?_; rintro e w0 ⟨rfl, hb0⟩)
  go_ret
  exact ⟨rfl, hb0⟩

set_option maxRecDepth 10000 in
set_option maxHeartbeats 1000000 in
theorem appends_in (A : Option Addr) (len c : Nat) (A2 : Option Addr) (len2 c2 : Nat) (b : List UInt8) (l : List Nat) (w : World) (hT : Tab w) (hlb : b.length = len) (hrb : Sl w w.heap.size A b) (hl : l.length = len2) (hr : Sn w w.heap.size A2 l)
    (hlen : (len : Int) ≤ (1000 : Int)) (hlen2 : (len2 : Int) ≤ (300 : Int)) :
    Calls Tryd.prog 4 #[.slice A len c, .slice A2 len2 c2] w fun e w' => e = .returned (.bool true) ∧ Below w.heap.size w w' := by
  have HL := Lib.hid hl
  have HLB := Lib.hid hlb
  have HRB := Lib.hid hrb
  have HR := Lib.hid hr
  clear hl hlb hrb hr
  go_enter Tryd.func4, Tryd.ntmps4
  go_wp2_with (go_at_call 6; refine (known_any _ hT).mono ?_; rintro e w0 ⟨rfl, hb0⟩; have hstr := run_string_sl (P := Tryd.prog) w0 22 9 5 Tryd.underlying22 Tryd.underlying5 Tryd.underlying9 w.heap.size A len c b (HRB.out.below hb0) HLB.out)
  clear hstr
  go_loopw [5, 6, 25] (fun vs vm i wr => ∃ k : Nat, k ≤ len2 ∧ i = .int .i64 k ∧ vm = .bool (mayB (l.take k)) ∧ vs = .string (strB (b ++ encs (l.take k))) ∧ Below w.heap.size w wr) (fun _ _ i _ => len2 - (intOf i).toNat)
  case atStart => exact ⟨0, Nat.zero_le _, rfl, rfl, by simp [encs], hb0⟩
  case round =>
    obtain ⟨k, hk, rfl, rfl, rfl, hbk⟩ := hrel
    by_cases hlt : k < len2
    · obtain ⟨n, hn⟩ : ∃ n, l[k]? = some n := ⟨_, List.getElem?_eq_getElem (by rw [HL.out]; exact hlt)⟩
      obtain ⟨b2, off2, rfl, hb2', hc2⟩ := Sn.at_ HR.out (by rw [HL.out]; omega)
      have hcell : wr.cell? ⟨b2, off2 + k, none⟩ = some (.int .u64 (n : Int)) := (hbk.cell (p := ⟨b2, off2 + k, none⟩) hb2').trans (hc2 k n hn)
      have HN := Lib.hid (show encs (l.take (k + 1)) = encs (l.take k) ++ enc n by rw [takeN_next l k n hn, encs_snoc])
      have HM := Lib.hid (show mayB (l.take (k + 1)) = (mayB (l.take k) && decide (n ≤ 4611686018427387903)) by rw [takeN_next l k n hn, mayB_snoc])
      clear hc2 hn
      have hes : (strB (b ++ encs (l.take k))).size ≤ 4000 := by
        have h1 := encs_length (l.take k)
        have h2 := sumSz_le (l.take k)
        have h3 : (l.take k).length ≤ k := List.length_take_le _ _
        have h4 := HLB.out
        rw [strB_size, List.length_append]
        omega
      generalize encs (l.take k) = es at *
      generalize mayB (l.take k) = m at *
      have HZ := Lib.hid (show ∀ w, _ from size_any n)
      have HZ2 := Lib.hid (show ∀ w, _ from refsize_any n)
      by_cases hmax : n ≤ 4611686018427387903
      · have hp1 : decide (0 < szN n) = true := decide_eq_true (by have := szN_pos hmax; omega)
        have HX := Lib.hid (decide_eq_true hmax)
        have HSH := Lib.hid (short_some hmax)
        have hen : (strB (enc n)).size ≤ 8 := by rw [strB_size, enc_length]; exact szN_le n
        clear hmax
        generalize szN n = z at *
        cases m
        all_goals
          go_wp2_with (first
            | (go_at_call 11; refine (HZ.out _).mono ?_; rintro e w' ⟨rfl, rfl⟩)
            | (go_at_call 12; refine (HZ2.out _).mono ?_; rintro e w' ⟨rfl, rfl⟩)
            | (go_at_call 13; refine (HSH.out _).mono ?_; rintro e w3 ⟨A3, c3, rfl, _, _, hown3, hbel3⟩; have hstr := run_string_sl (P := Tryd.prog) w3 22 9 5 Tryd.underlying22 Tryd.underlying5 Tryd.underlying9 _ A3 _ c3 (enc n) (Sv.of_own hown3) rfl; clear hown3))
          go_roundw
          case rel =>
            refine ⟨k + 1, by omega, by go_num, by rw [HM.out, HX.out]; rfl, ?_, hbk.trans (hbel3.mono hbk.size)⟩
            exact congrArg Value.string ((strB_append _ _).trans (by rw [HN.out, ← List.append_assoc]))
          case measure => simp [intOf]; omega
      · have hp1 : decide (0 < szN n) = false := decide_eq_false (by have := szN_0 hmax; omega)
        have HX := Lib.hid (decide_eq_false hmax)
        have HSH := Lib.hid (short_none hmax)
        have HE := Lib.hid (enc_none hmax)
        have hen : (strB []).size ≤ 8 := by rw [strB_size]; decide
        have hstr := run_string_sl (P := Tryd.prog) wr 22 9 5 Tryd.underlying22 Tryd.underlying5 Tryd.underlying9 0 none 0 0 [] (Sv.nil _ _ _) rfl
        clear hmax
        generalize szN n = z at *
        cases m
        all_goals
          go_wp2_with (first
            | (go_at_call 11; refine (HZ.out _).mono ?_; rintro e w' ⟨rfl, rfl⟩)
            | (go_at_call 12; refine (HZ2.out _).mono ?_; rintro e w' ⟨rfl, rfl⟩)
            | (go_at_call 13; refine (HSH.out _).mono ?_; rintro e w' ⟨rfl, rfl⟩))
          go_roundw
          case rel =>
            refine ⟨k + 1, by omega, by go_num, by rw [HM.out, HX.out]; rfl, ?_, hbk⟩
            exact congrArg Value.string ((strB_append _ _).trans (by rw [HN.out, HE.out, ← List.append_assoc]))
          case measure => simp [intOf]; omega
    · obtain rfl : len2 = k := by omega
      have ht : l.take len2 = l := List.take_of_length_le (by rw [HL.out]; exact Nat.le_refl _)
      rw [ht]
      by_cases hm : mayB l = true
      · have HMY := Lib.hid ((may_iff l).1 hm)
        have HT := Lib.hid (hT.below hbk hT.lt)
        go_wp2_with (go_at_call 14; refine (append_ok A len c A2 len2 c2 b l _ w.heap.size HLB.out (HRB.out.below hbk) HL.out (HR.out.below hbk) hbk.size (by omega) (by omega) HMY.out HT.out).mono ?_; rintro e w3 ⟨A3, c3, rfl, _, _, hown3, hbel3⟩; have hb3 : Below w.heap.size w w3 := hbk.trans (hbel3.mono hbk.size); have hstr := run_string_sl (P := Tryd.prog) w3 22 9 5 Tryd.underlying22 Tryd.underlying5 Tryd.underlying9 _ A3 _ c3 (b ++ encs l) (Sv.of_own hown3) rfl; clear hown3 hbel3; generalize b ++ encs l = g at *)
        go_ret
        exact ⟨rfl, hb3⟩
      · have HMY := Lib.hid (fun h : May l => hm ((may_iff l).2 h))
        have hmf : mayB l = false := by simpa using hm
        clear hm
        go_wp2_with (go_at_call 14; refine (append_bad A len c A2 len2 c2 l _ w.heap.size HL.out (HR.out.below hbk) (by omega) HMY.out).mono ?_; rintro e w' ⟨rfl, rfl⟩)
        go_ret
        exact ⟨rfl, hbk⟩

theorem appends_any (A : Option Addr) (len c : Nat) (A2 : Option Addr) (len2 c2 : Nat) (b : List UInt8) (l : List Nat) (w : World) (hT : Tab w) (hlb : b.length = len) (hrb : Sl w w.heap.size A b) (hl : l.length = len2) (hr : Sn w w.heap.size A2 l) :
    Calls Tryd.prog 4 #[.slice A len c, .slice A2 len2 c2] w fun e w' => e = .returned (.bool true) ∧ Below w.heap.size w w' := by
  by_cases h1 : len ≤ 1000
  · by_cases h2 : len2 ≤ 300
    · exact appends_in A len c A2 len2 c2 b l w hT hlb hrb hl hr (by omega) (by omega)
    · exact appends_many A len c A2 len2 c2 w hT (by omega) (by omega)
  · exact appends_long A len c A2 len2 c2 w hT (by omega)

end Go.Proofs.YtbkdjnppgdjnaaaDoor
