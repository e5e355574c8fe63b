/-
  The walks through the reader's cut, zeros, rangeDown and length.
-/
import Derived.Test.YtkkojhkglcigmaaDoorReader
import Derived.Test.YtkkojhkglcigmaaDoorFrm
namespace Go.Proofs.YtkkojhkglcigmaaDoor
open Go.RowKit
set_option linter.unusedVariables false

/-- Bytes of its own, and what is left. -/
def CutGave (w : World) (B rb n : Nat) (l : List UInt8) (e : Ending) (w' : World) : Prop :=
  ∃ A' c', e = .returned (.slice A' n c') ∧ n ≤ c' ∧ c' ≤ maxLen ∧ w'.ownsRow w.heap.size 5 1 (.slice A' n c') n ((l.take n).map cell8) ∧ Rd w' B rb (l.drop n) ∧ w.grownBy w' (some rb)

set_option maxRecDepth 10000 in
set_option maxHeartbeats 400000 in
theorem cut_none (n : Nat) (l : List UInt8) (w : World) (B rb : Nat) (hr : Rd w B rb l) (hn : l.length < n) :
    Calls Tryd.prog 49 #[.pointer (some ⟨rb, 0, none⟩), .int .u64 (n : Int)] w (RdWrong w rb) := by
  obtain ⟨A, len, c, hw, hl, hc, hm, hs, hB⟩ := hr
  have hcell := hw.cell 0
  simp only [List.getElem?_toArray, List.getElem?_cons_zero] at hcell
  unfold maxLen at hm
  have t1 : decide (n ≤ len) = false := decide_eq_false (by omega)
  have t2 : decide ((n : Int) ≤ (len : Int)) = false := decide_eq_false (by omega)
  have HL := Lib.hid hl
  clear hl hn
  go_enter Tryd.func49, Tryd.ntmps49
  go_wp2_with fail
  refine (need_no _).mono ?_
  rintro e w' ⟨rfl, rfl⟩
  go_wp2
  exact ⟨rfl, rfl, World.grownBy.refl _ _⟩

set_option maxRecDepth 10000 in
set_option maxHeartbeats 400000 in
theorem cut_some (n : Nat) (l : List UInt8) (w : World) (B rb : Nat) (hr : Rd w B rb l) (hn : n ≤ l.length) (hlen : l.length ≤ 16777216) :
    Calls Tryd.prog 49 #[.pointer (some ⟨rb, 0, none⟩), .int .u64 (n : Int)] w (CutGave w B rb n l) := by
  obtain ⟨i0, hi0, hz0, hz1, hz2⟩ := info_parts info8
  have hlt := hr.lt
  obtain ⟨A, len, c, hw, hl, hc, hm, hs, hB⟩ := hr
  have hcell := hw.cell 0
  simp only [List.getElem?_toArray, List.getElem?_cons_zero] at hcell
  have HM : Hid (c ≤ maxLen) := hm
  unfold maxLen at hm
  have hnl : n ≤ len := by omega
  have hll : len ≤ 16777216 := by omega
  have t1 : (n : Int) ≤ (len : Int) := by omega
  have HL := Lib.hid hl
  have HS : Hid (Sv w B A ((l.take n).map cell8)) := by show Sv _ _ _ _; rw [List.map_take]; exact hs.take n
  clear hl hn hlen
  go_enter Tryd.func49, Tryd.ntmps49
  go_wp2_with fail
  refine (need_yes _).mono ?_
  rintro e w' ⟨rfl, rfl⟩
  go_wp2_with (at_builtin; refine wpList_append_sv _ rfl _ _ _ rfl w.heap.size 5 i0 _ 1 Tryd.underlying22 hi0 hz0 hz1 hz2 rfl (.slice none 0 0) 0 [] rfl (World.ownsRow_nil w _ _ 1) B _ _ _ _ rfl HS.out ((List.length_map _).trans ((List.length_take).trans (by rw [HL.out]; omega))) (cell8_one _) (by unfold maxLen; omega) (by omega) (Nat.le_refl _) ?_; intro v1 w1 hown1 hg1 hat1; have hw1 : Wh w1 rb 69 #[.slice A len c] := hw.grown hg1 (by simp [Value.ownBlock]); have hcell1 := hw1.cell 0; have hfz1 := hw1.frozen 0; simp only [List.getElem?_toArray, List.getElem?_cons_zero] at hcell1)
  all_goals
    rw [Nat.zero_add, List.nil_append] at hown1
    obtain ⟨A', c', rfl, q1, q2⟩ := own_form hown1
    have hs1 : Sl w1 B A l := hs.keep (Nat.le_refl _) fun p hp => World.cell?_of_block (hg1.block p.block (by omega) (by simp [Value.ownBlock]))
    go_ret
    exact ⟨A', c', rfl, q1, q2, ownsRow_setCell_below hown1 hlt _, Rd.step hw1 HL.out hc HM.out hs1 hB n hnl _ (by first | rw [if_neg ‹_›] | simp [‹c = n›]), grown_trans ⟨hg1.os, hg1.tape, hg1.output, hg1.size, fun k hk _ => hg1.block k hk (by simp [Value.ownBlock])⟩ (grown_set _ _ _ _)⟩

/-- How many bytes 0 it begins with, but no more than so many. -/
def zerosN : Nat → List UInt8 → Nat
  | 0, _ => 0
  | _, [] => 0
  | m + 1, x :: t => if x = 0 then zerosN m t + 1 else 0

theorem zerosN_le : ∀ (m : Nat) (l : List UInt8), zerosN m l ≤ m ∧ zerosN m l ≤ l.length
  | 0, l => by cases l <;> simp [zerosN]
  | m + 1, [] => by simp [zerosN]
  | m + 1, x :: t => by
    have := zerosN_le m t
    unfold zerosN
    split <;> simp <;> omega

theorem zerosN_lt : ∀ (m : Nat) (l : List UInt8) (i : Nat), i < zerosN m l → l[i]? = some 0
  | 0, l, i, h => by cases l <;> simp [zerosN] at h
  | m + 1, [], i, h => by simp [zerosN] at h
  | m + 1, x :: t, i, h => by
    unfold zerosN at h
    split at h
    · rename_i hx
      cases i with
      | zero => simp [hx]
      | succ i => simpa using zerosN_lt m t i (by omega)
    · omega

theorem zerosN_end : ∀ (m : Nat) (l : List UInt8), zerosN m l < m → l[zerosN m l]? ≠ some 0
  | 0, l, h => by omega
  | m + 1, [], h => by simp
  | m + 1, x :: t, h => by
    by_cases hx : x = 0
    · have e : zerosN (m + 1) (x :: t) = zerosN m t + 1 := by simp [zerosN, hx]
      rw [e] at h ⊢
      simpa using zerosN_end m t (by omega)
    · have e : zerosN (m + 1) (x :: t) = 0 := by simp [zerosN, hx]
      rw [e]
      simpa using hx

set_option maxRecDepth 10000 in
set_option maxHeartbeats 400000 in
theorem rzeros_any (m : Nat) (l : List UInt8) (w : World) (B rb : Nat) (hr : Rd w B rb l) (hm0 : m ≤ 65535) :
    Calls Tryd.prog 46 #[.pointer (some ⟨rb, 0, none⟩), .int .i64 (m : Int)] w (RdGave w B rb (.int .u64 (zerosN m l : Nat)) (l.drop (zerosN m l))) := by
  obtain ⟨A, len, c, hw, hl, hc, hm, hs, hB⟩ := hr
  have hcell := hw.cell 0
  have hfz := hw.frozen 0
  simp only [List.getElem?_toArray, List.getElem?_cons_zero] at hcell
  have HM : Hid (c ≤ maxLen) := hm
  unfold maxLen at hm
  have hz := zerosN_le m l
  have HZ := Lib.hid (zerosN_lt m l)
  have HE := Lib.hid (zerosN_end m l)
  rw [hl] at hz
  have HL := Lib.hid hl
  have HW := Lib.hid hw
  have HS := Lib.hid hs
  clear hl hw hs
  generalize zerosN m l = z at *
  go_enter Tryd.func46, Tryd.ntmps46
  go_wp2
  go_loop [5] (fun i => ∃ k : Nat, k ≤ z ∧ i = .int .i64 k) (fun i => z - (intOf i).toNat)
  case atStart => exact ⟨0, Nat.zero_le _, rfl⟩
  case round =>
    obtain ⟨k, hk, rfl⟩ := hrel
    by_cases hlt : k < z
    · obtain ⟨b, off, rfl, hb, hcc⟩ := Sl.at_ HS.out (by have := HL.out; omega)
      have hx := hcc k 0 (HZ.out k hlt)
      have hx0 : (((0 : UInt8).toNat : Int)) = 0 := rfl
      rw [hx0] at hx
      clear hcc hx0
      have t1 : k < m := by omega
      have t2 : k < len := by omega
      have t3 : (k : Int) < (m : Int) := by omega
      have t4 : (k : Int) < (len : Int) := by omega
      go_wp2
      go_round
      case rel => exact ⟨k + 1, by omega, by go_num⟩
      case measure => simp [intOf]; omega
    · obtain rfl : k = z := by omega
      by_cases h1 : k < m
      · by_cases h2 : k < len
        · obtain ⟨b, off, rfl, hb, hcc⟩ := Sl.at_ HS.out (by have := HL.out; omega)
          obtain ⟨x, hx⟩ : ∃ x, l[k]? = some x := ⟨_, List.getElem?_eq_getElem (by rw [HL.out]; exact h2)⟩
          have hxc := hcc k x hx
          have hne : ((x.toNat : Int) == 0) = false := by
            rw [beq_eq_false_iff_ne]
            intro h0
            have h00 : x.toNat = 0 := by omega
            exact HE.out h1 (by rw [hx, show x = 0 from UInt8.toNat_inj.1 (by rw [h00]; rfl)])
          clear hcc hx
          have t3 : (k : Int) < (m : Int) := by omega
          have t4 : (k : Int) < (len : Int) := by omega
          go_wp2
          all_goals
            go_ret
            exact ⟨rfl, Rd.step HW.out HL.out hc HM.out HS.out hB k (by omega) _ (by first | rw [if_neg ‹_›] | (rw [if_neg (by omega)]; done) | (rw [if_neg (by omega), Option.map_some, Addr.add_lit]) | simp [‹c = k›]), grown_set _ _ _ _⟩
        · have t3 : (k : Int) < (m : Int) := by omega
          have t4 : decide ((k : Int) < (len : Int)) = false := decide_eq_false (by omega)
          go_wp2
          all_goals
            go_ret
            exact ⟨rfl, Rd.step HW.out HL.out hc HM.out HS.out hB k (by omega) _ (by first | rw [if_neg ‹_›] | (rw [if_neg (by omega)]; done) | (rw [if_neg (by omega), Option.map_some, Addr.add_lit]) | simp [‹c = k›]), grown_set _ _ _ _⟩
      · have t3 : decide ((k : Int) < (m : Int)) = false := decide_eq_false (by omega)
        go_wp2
        all_goals
          go_ret
          exact ⟨rfl, Rd.step HW.out HL.out hc HM.out HS.out hB k (by omega) _ (by first | rw [if_neg ‹_›] | (rw [if_neg (by omega)]; done) | (rw [if_neg (by omega), Option.map_some, Addr.add_lit]) | simp [‹c = k›]), grown_set _ _ _ _⟩

/-- A store into a block that is new turns nothing that was there. -/
theorem grown_new {a b : World} {row : Option Nat} (h : a.grownBy b row) {g : Nat} (hg : a.heap.size ≤ g) (i : Nat) (u : Value) : a.grownBy (b.setCell ⟨g, i, none⟩ u) row :=
  ⟨h.os, h.tape, h.output, by simp [World.setCell]; exact h.size, fun k hk hne => (Below.heap_setCell b ⟨g, i, none⟩ u k (by simp; omega)).trans (h.block k hk hne)⟩

/-- The range whose greatest number is top, and that has one number more than the next one tells. -/
def down_ (top : Nat) (l : List UInt8) : Option ((Nat × Nat) × List UInt8) :=
  match num_ l with
  | some (n, t) => if n ≤ top then some ((top - n, top + 1), t) else none
  | none => none

set_option maxRecDepth 10000 in
set_option maxHeartbeats 800000 in
theorem down_any (top : Nat) (l : List UInt8) (w : World) (B rb : Nat) (hr : Rd w B rb l) (ht : top ≤ 4611686018427387903) :
    Calls Tryd.prog 56 #[.pointer (some ⟨rb, 0, none⟩), .int .u64 (top : Int)] w (RdTold w B rb ((down_ top l).map fun x => (.agg #[.int .u64 (x.1.1 : Int), .int .u64 (x.1.2 : Int)], x.2))) := by
  have hlt := hr.lt
  have hw0 : Rd (w.alloc (.cells #[.int .u64 0, .int .u64 0] 55)) B rb l := hr.grown (World.grownBy_alloc w _ none) (by simp) (by simp)
  have hg0 : w.grownBy (w.alloc (.cells #[.int .u64 0, .int .u64 0] 55)) (some rb) := World.grownBy_alloc w _ _
  have hB0 : Wh (w.alloc (.cells #[.int .u64 0, .int .u64 0] 55)) w.heap.size 55 #[.int .u64 0, .int .u64 0] := Wh.new w _ _
  have HN := Lib.hid (number_any l _ B rb hw0)
  have HW := Lib.hid hw0
  have HG := Lib.hid hg0
  have HB := Lib.hid hB0
  clear hr hw0 hg0 hB0
  have HD : Hid (down_ top l = match num_ l with
    | some (n, t) => if n ≤ top then some ((top - n, top + 1), t) else none
    | none => none) := rfl
  generalize down_ top l = d at *
  rcases hnum : num_ l with _ | ⟨n, t⟩
  · rw [hnum] at HN HD
    clear hnum
    obtain rfl : d = none := HD.out
    go_enter Tryd.func56, Tryd.ntmps56
    go_wp2_with fail
    refine HN.out.mono ?_
    rintro e w' ⟨rfl, hg⟩
    go_wp2
    exact ⟨rfl, rfl, grown_trans HG.out hg⟩
  · rw [hnum] at HN HD
    clear hnum
    by_cases hle : n ≤ top
    · obtain rfl : d = some ((top - n, top + 1), t) := HD.out.trans (if_pos hle)
      have t1 : (n : Int) ≤ (top : Int) := by omega
      go_enter Tryd.func56, Tryd.ntmps56
      go_wp2_with fail
      refine HN.out.mono ?_
      rintro e w1 ⟨rfl, hrd, hg⟩
      go_wp2_with fail
      refine (need_yes _).mono ?_
      rintro e w' ⟨rfl, rfl⟩
      have hb1 := HB.out.grown hg (by simp; omega)
      have hc0 := hb1.cell 0
      have hc1 := hb1.cell 1
      have hf0 := hb1.frozen 0
      have hf1 := hb1.frozen 1
      simp only [List.getElem?_toArray, List.getElem?_cons_zero, List.getElem?_cons_succ] at hc0 hc1
      have HB1 := Lib.hid hb1
      have HRD := Lib.hid hrd
      have HG1 := Lib.hid (grown_trans HG.out hg)
      clear hb1 hrd hg
      go_wp2
      refine bodyPost_ret (v := .agg #[.int .u64 ((top : Int) - (n : Int)), .int .u64 ((top : Int) + 1)]) (results_cell_row Tryd.results56 _ _ w.heap.size _ _ (0, 0) _ rfl ((HB1.out.put 0 _).put 1 _) Tryd.underlying55 rfl (by kernel_rfl)) rfl ?_
      refine ⟨?_, (HRD.out.grown (grown_set _ w.heap.size 0 _) (by simp; omega) (fun g hg => by obtain rfl := Option.some.inj hg; have := HRD.out; obtain ⟨_, _, _, h, _, _, _, _, hB⟩ := this; omega)).grown (grown_set _ w.heap.size 1 _) (by simp; omega) (fun g hg => by obtain rfl := Option.some.inj hg; have := HRD.out; obtain ⟨_, _, _, h, _, _, _, _, hB⟩ := this; omega), ?_⟩
      · show _ = Ending.returned (.agg #[.int .u64 ((top - n : Nat) : Int), .int .u64 ((top + 1 : Nat) : Int)])
        rw [show ((top - n : Nat) : Int) = (top : Int) - (n : Int) by omega, show ((top + 1 : Nat) : Int) = (top : Int) + 1 by omega]
      · exact grown_new (grown_new HG1.out (Nat.le_refl _) _ _) (Nat.le_refl _) _ _
    · obtain rfl : d = none := HD.out.trans (if_neg hle)
      have t1 : decide ((n : Int) ≤ (top : Int)) = false := decide_eq_false (by omega)
      have t2 : decide (n ≤ top) = false := decide_eq_false hle
      go_enter Tryd.func56, Tryd.ntmps56
      go_wp2_with fail
      refine HN.out.mono ?_
      rintro e w1 ⟨rfl, hrd, hg⟩
      go_wp2_with fail
      refine (need_no _).mono ?_
      rintro e w' ⟨rfl, rfl⟩
      go_wp2
      exact ⟨rfl, rfl, grown_trans HG.out hg⟩

end Go.Proofs.YtkkojhkglcigmaaDoor
