/-
  The document's own Great and Join (hostlerref06): lists of texts.
-/
import Derived.Test.YtjbhnfgjkibmfaaDoorShRefB
import Derived.Test.YtjbhnfgjkibmfaaDoorShAdd
namespace Go.Proofs.YtjbhnfgjkibmfaaDoor
open Go.RowKit
set_option linter.unusedVariables false

/-- A list of texts in memory. -/
def PartsIn (w : World) (B : Nat) (vs : List Value) (ps : List (List UInt8)) : Prop :=
  vs.length = ps.length ∧ ∀ (i : Nat) (v : Value) (l : List UInt8), vs[i]? = some v → ps[i]? = some l → ∃ A c, v = .slice A l.length c ∧ l.length ≤ c ∧ c ≤ maxLen ∧ Sl w B A l

theorem PartsIn.at_ {w : World} {B : Nat} {vs : List Value} {ps : List (List UInt8)} (h : PartsIn w B vs ps) (k : Nat) (hk : k < vs.length) :
    ∃ (l : List UInt8) (A : Option Addr) (c : Nat), ps[k]? = some l ∧ vs[k]? = some (.slice A l.length c) ∧ l.length ≤ c ∧ c ≤ maxLen ∧ Sl w B A l := by
  have hp : k < ps.length := by rw [← h.1]; exact hk
  obtain ⟨A, c, h1, h2, h3, h4⟩ := h.2 k vs[k] ps[k] (List.getElem?_eq_getElem hk) (List.getElem?_eq_getElem hp)
  exact ⟨ps[k], A, c, List.getElem?_eq_getElem hp, by rw [List.getElem?_eq_getElem hk, h1], h2, h3, h4⟩

theorem flat_succ (ps : List (List UInt8)) (k : Nat) (p : List UInt8) (h : ps[k]? = some p) : (ps.take (k + 1)).flatten = (ps.take k).flatten ++ p := by
  rw [List.take_add_one, h]
  simp

/-- Texts that are more than are gone through. -/
def greatB (len : Nat) (ps : List (List UInt8)) : Bool := decide (3000 < len + ps.flatten.length)

set_option maxRecDepth 100000 in
set_option maxHeartbeats 800000 in
theorem great_any (ps : List (List UInt8)) (vs : List Value) (A : Option Addr) (len c B : Nat) (w : World) (hA : Sv w B A vs) (hvl : vs.length = len) (hP : PartsIn w B vs ps) (hlen : len ≤ 140737488351232) (hpl : ∀ l ∈ ps, l.length ≤ 140737488351232) :
    Calls Tryd.prog 7 #[.slice A len c, .int .i64 3000] w fun e w' => e = .returned (.bool (greatB len ps)) ∧ w = w' := by
  have HA := Lib.hid hA
  have HV := Deep.mk hvl
  have HP := Deep.mk hP
  have HPL := Deep.mk hpl
  have HLN := Deep.mk hlen
  clear hA hvl hP hpl
  go_enter Tryd.func7, Tryd.ntmps7
  go_wp2
  go_loop [5, 6] (fun v i => ∃ (k s : Nat), k ≤ len ∧ i = .int .i64 (k : Int) ∧ v = .int .i64 (s : Int) ∧ Deep (s = len + (ps.take k).flatten.length) ∧ s ≤ 140737488354304) (fun _ i => len - (intOf i).toNat)
  case atStart => exact ⟨0, len, by omega, rfl, rfl, ⟨by simp⟩, by omega⟩
  case round =>
    obtain ⟨k, s, hk, rfl, rfl, HS, hs⟩ := hrel
    by_cases hlt : k < len
    · obtain ⟨l, A', c', hpk, hvk, hlc, hcm, hsl⟩ := HP.out.at_ k (by rw [HV.out]; exact hlt)
      by_cases h3 : s ≤ 3000
      · obtain ⟨b, off, rfl, hb, hcell⟩ := HA.out (by intro e; rw [e] at hvk; simp at hvk)
        have hck := hcell k _ hvk
        have hll : l.length ≤ 140737488351232 := HPL.out l (List.mem_of_getElem? hpk)
        have HPK := Deep.mk hpk
        have t1 : decide ((s : Int) ≤ 3000) = true := decide_eq_true (by omega)
        have t2 : decide (k < len) = true := decide_eq_true hlt
        clear hcell hpk hvk hsl hcm
        go_wp2
        go_round
        case rel => exact ⟨k + 1, s + l.length, by omega, by go_num, by go_num, ⟨by rw [flat_succ ps k l HPK.out, List.length_append, HS.out]; omega⟩, by omega⟩
        case measure => simp [intOf]; omega
      · have t1 : decide ((s : Int) ≤ 3000) = false := decide_eq_false (by omega)
        have t2 : decide (k < len) = true := decide_eq_true hlt
        have t3 : decide ((3000 : Int) < (s : Int)) = true := decide_eq_true (by omega)
        have hf : 3000 < len + ps.flatten.length := by
          have h1 := HS.out
          have h2 := flat_le ps k l hpk
          omega
        have HF : Deep (greatB len ps = true) := ⟨decide_eq_true hf⟩
        clear hpk hvk hlc hcm hsl hf h3
        go_wp2
        go_ret
        exact ⟨by rw [HF.out]; rfl, rfl⟩
    · have t2 : decide (k < len) = false := decide_eq_false hlt
      have HF : Deep (greatB len ps = decide ((3000 : Int) < (s : Int))) := ⟨by
        unfold greatB
        have h1 := HS.out
        rw [List.take_of_length_le (by rw [← HP.out.1, HV.out]; omega)] at h1
        rw [← h1, Bool.eq_iff_iff, decide_eq_true_iff, decide_eq_true_iff]
        omega⟩
      clear hlt hk
      go_wp2
      go_ret
      exact ⟨by rw [HF.out]; rfl, rfl⟩

set_option maxRecDepth 100000 in
set_option maxHeartbeats 800000 in
theorem join_any (ps : List (List UInt8)) (vs : List Value) (A : Option Addr) (len c B : Nat) (w : World) (hB : B ≤ w.heap.size) (hA : Sv w B A vs) (hvl : vs.length = len) (hP : PartsIn w B vs ps) (hlen : len ≤ 140737488351232) (hmax : ps.flatten.length ≤ 16000000) :
    Calls Tryd.prog 8 #[.slice A len c] w (GaveB w ps.flatten) := by
  obtain ⟨i0, hi0, hz0, hz1, hz2⟩ := info_parts info8
  have HA := Lib.hid hA
  have HV := Deep.mk hvl
  have HP := Deep.mk hP
  have HM := Deep.mk hmax
  obtain ⟨L, hL⟩ : ∃ L, L = ps.flatten := ⟨_, rfl⟩
  rw [← hL]
  have HLL := Deep.mk hL
  clear hA hvl hP hmax hL
  go_enter Tryd.func8, Tryd.ntmps8
  go_wp2
  go_loopw [3, 4] (fun v i wr => ∃ (k m : Nat), k ≤ len ∧ i = .int .i64 (k : Int) ∧ Deep (m = (ps.take k).flatten.length) ∧ Hid (wr.ownsRow w.heap.size 5 1 v m (((ps.take k).flatten).map cell8)) ∧ Hid (Below w.heap.size w wr)) (fun _ i _ => len - (intOf i).toNat)
  case atStart => exact ⟨0, 0, by omega, rfl, ⟨by simp⟩, Lib.hid (by simpa using World.ownsRow_nil _ _ _ 1), Lib.hid (Below.refl _ _)⟩
  case round =>
    obtain ⟨k, m, hk, rfl, HMM, HO, HB⟩ := hrel
    by_cases hlt : k < len
    · obtain ⟨l, A', c', hpk, hvk, hlc, hcm, hsl⟩ := HP.out.at_ k (by rw [HV.out]; exact hlt)
      obtain ⟨b, off, rfl, hb, hcell⟩ := HA.out (by intro e; rw [e] at hvk; simp at hvk)
      have hck : wr.cell? ⟨b, off + k, none⟩ = some (.slice A' l.length c') := (HB.out.cell (p := ⟨b, off + k, none⟩) (by show b < _; omega)).trans (hcell k _ hvk)
      have hfl := flat_le ps k l hpk
      have hml : m + l.length ≤ 16000000 := by have h1 := HM.out; have h2 := HMM.out; omega
      have HSL : Hid (Sl wr B A' l) := hsl.below (HB.out.mono hB)
      have HPK := Deep.mk hpk
      have t2 : decide (k < len) = true := decide_eq_true hlt
      clear hcell hpk hvk hsl hcm hfl
      go_wp2_with (at_builtin; refine wpList_append_sv _ rfl (.tmp 11) (.tmp 15) _ rfl w.heap.size 5 i0 _ 1 Tryd.underlying22 hi0 hz0 hz1 hz2 rfl _ _ _ rfl HO.out B _ _ _ (l.map cell8) rfl HSL.out (by rw [List.length_map]) (cell8_one _) (by unfold maxLen; omega) (by omega) HB.out.size ?_; intro v3 w3 hown3 hg3 _; have HB3 := Lib.hid (HB.out.grown hg3 HB.out.size (fun q hq => (HO.out.lt q hq).1)); have HO3 := Lib.hid hown3; clear hg3 hown3)
      have HO4 : Hid (w3.ownsRow w.heap.size 5 1 v3 (m + l.length) (((ps.take (k + 1)).flatten).map cell8)) := by
        have h := HO3.out
        rw [← List.map_append, ← flat_succ ps k l HPK.out] at h
        exact Lib.hid h
      have HM4 : Deep (m + l.length = (ps.take (k + 1)).flatten.length) := ⟨by rw [flat_succ ps k l HPK.out, List.length_append, ← HMM.out]⟩
      clear HO3
      go_roundw
      case rel => exact ⟨k + 1, m + l.length, by omega, by go_num, HM4, HO4, HB3⟩
      case measure => simp [intOf]; omega
    · have t2 : decide (k < len) = false := decide_eq_false hlt
      have hfull : (ps.take k).flatten = L := by rw [HLL.out, List.take_of_length_le (by rw [← HP.out.1, HV.out]; omega)]
      have HO5 := HO.out
      have HM5 := HMM.out
      rw [hfull] at HO5 HM5
      obtain ⟨A4, c4, rfl, h4a, h4b⟩ := own_form HO5
      have HO6 := Lib.hid HO5
      have HM6 := Deep.mk HM5
      clear HO5 HM5 hlt hk hfull HO HMM
      go_wp2
      go_ret
      have hret : Ending.returned (.slice A4 m c4) = Ending.returned (.slice A4 L.length c4) := by rw [HM6.out]
      exact ⟨A4, c4, hret, by rw [← HM6.out]; exact h4a, h4b, by rw [← HM6.out]; exact HO6.out, HB.out⟩

end Go.Proofs.YtjbhnfgjkibmfaaDoor
