/-
  The small walks of layer 12: first, inTurn, later, Ready, Came, want.
-/
import Derived.Test.YtaemfoelhijbjaaHeKit0
namespace Go.Proofs.Ytaemfoelhijbjaa
open Go.RowKit
set_option linter.unusedVariables false

theorem isEmpty_len {l : List (Nat × Nat)} {n : Nat} (h : l.length = n) : l.isEmpty = decide (n = 0) := by
  subst h
  cases l <;> simp

theorem first_any (w : World) (g n c : Nat) (A : Option Addr) (s : HS) (h : HAt w g A n c s) :
    Calls Try.prog 17 #[.pointer (some ⟨g, 0, none⟩)] w fun e w' => e = .returned (.bool (firstS s)) ∧ w = w' := by
  have h0 := h.c0
  have h1 := h.c1
  have HE := Lib.hid (isEmpty_len h.len)
  clear h
  by_cases hn : n = 0
  · have d1 : ((n : Int) == 0) = true := by simp [hn]
    by_cases hf : s.fl = 0
    · have d2 : ((s.fl : Int) == 0) = true := by simp [hf]
      have HR : Hid (firstS s = true) := Lib.hid (by unfold firstS; rw [HE.out]; simp [hn, hf])
      clear hn hf
      go_enter Try.func17, Try.ntmps17
      go_wp2
      go_ret
      exact ⟨by rw [HR.out]; rfl, rfl⟩
    · have d2 : ((s.fl : Int) == 0) = false := by simp [hf]
      have HR : Hid (firstS s = false) := Lib.hid (by unfold firstS; simp [hf])
      clear hn hf
      go_enter Try.func17, Try.ntmps17
      go_wp2
      go_ret
      exact ⟨by rw [HR.out]; rfl, rfl⟩
  · have d1 : ((n : Int) == 0) = false := by simp [hn]
    have HR : Hid (firstS s = false) := Lib.hid (by unfold firstS; rw [HE.out]; simp [hn])
    clear hn
    go_enter Try.func17, Try.ntmps17
    go_wp2
    go_ret
    exact ⟨by rw [HR.out]; rfl, rfl⟩

theorem inTurn_any (w : World) (g n c pn : Nat) (A : Option Addr) (s : HS) (h : HAt w g A n c s) (hla : s.la < topN) :
    Calls Try.prog 16 #[.pointer (some ⟨g, 0, none⟩), .int .u64 (pn : Int)] w fun e w' => e = .returned (.bool (inTurnS s pn)) ∧ w = w' := by
  have HF := Lib.hid (first_any w g n c A s h)
  have h2 := h.c2
  have hw : IntKind.u64.wrap ((s.la : Int) + 1) = (s.la : Int) + 1 := by rw [IntKind.wrap_u64]; unfold topN at hla; omega
  have HT : Hid (inTurnS s pn = (firstS s || decide (pn = s.la + 1))) := Lib.hid rfl
  clear h hla
  generalize firstS s = b at *
  generalize inTurnS s pn = r at *
  cases b with
  | true =>
    go_enter Try.func16, Try.ntmps16
    go_wp2_with (go_at_call 17; refine HF.out.mono ?_; rintro e w1 ⟨rfl, rfl⟩)
    go_ret
    exact ⟨by rw [HT.out]; rfl, rfl⟩
  | false =>
    by_cases hp : pn = s.la + 1
    · have d1 : ((pn : Int) == (s.la : Int) + 1) = true := by simp; omega
      have HR : Hid (r = true) := Lib.hid (by rw [HT.out]; simp [hp])
      clear hp HT
      go_enter Try.func16, Try.ntmps16
      go_wp2_with (go_at_call 17; refine HF.out.mono ?_; rintro e w1 ⟨rfl, rfl⟩)
      go_ret
      exact ⟨by rw [HR.out]; rfl, rfl⟩
    · have d1 : ((pn : Int) == (s.la : Int) + 1) = false := by simp; omega
      have HR : Hid (r = false) := Lib.hid (by rw [HT.out]; simp [hp])
      clear hp HT
      go_enter Try.func16, Try.ntmps16
      go_wp2_with (go_at_call 17; refine HF.out.mono ?_; rintro e w1 ⟨rfl, rfl⟩)
      go_ret
      exact ⟨by rw [HR.out]; rfl, rfl⟩

theorem later_any (w : World) (now delay : Nat) (hn : now ≤ topN) :
    Calls Try.prog 28 #[.int .u64 (now : Int), .int .u64 (delay : Int)] w fun e w' => e = .returned (.int .u64 ((now + min delay (topN - now) : Nat) : Int)) ∧ w = w' := by
  have w1 : IntKind.u64.wrap (18446744073709551615 - (now : Int)) = 18446744073709551615 - (now : Int) := by rw [IntKind.wrap_u64]; unfold topN at hn; omega
  have w2 : IntKind.u64.wrap ((now : Int) + (18446744073709551615 - (now : Int))) = (now : Int) + (18446744073709551615 - (now : Int)) := by rw [IntKind.wrap_u64]; omega
  have w3 : (delay : Int) ≤ 18446744073709551615 - (now : Int) → IntKind.u64.wrap ((now : Int) + (delay : Int)) = (now : Int) + (delay : Int) := fun h => by rw [IntKind.wrap_u64]; omega
  have HN := Lib.hid hn
  have W3 := Lib.hid w3
  clear hn w3
  by_cases hd : (delay : Int) ≤ 18446744073709551615 - (now : Int)
  · have w4 := W3.out hd
    go_enter Try.func28, Try.ntmps28
    go_wp2
    all_goals
      go_ret
      refine ⟨congrArg (fun z => Ending.returned (Value.int IntKind.u64 z)) (?_ : (_ : Int) = _), rfl⟩
      have := HN.out
      unfold topN at *
      omega
  · go_enter Try.func28, Try.ntmps28
    go_wp2
    all_goals
      go_ret
      refine ⟨congrArg (fun z => Ending.returned (Value.int IntKind.u64 z)) (?_ : (_ : Int) = _), rfl⟩
      have := HN.out
      unfold topN at *
      omega

/-- Whether an ACK is due. -/
def readyS (s : HS) (now : Nat) : Bool := !decide (s.du = 0) && decide (s.du ≤ now)

theorem ready_any (w : World) (g n c now : Nat) (A : Option Addr) (s : HS) (h : HAt w g A n c s) :
    Calls Try.prog 6 #[.pointer (some ⟨g, 0, none⟩), .int .u64 (now : Int)] w fun e w' => e = .returned (.bool (readyS s now)) ∧ w = w' := by
  have h4 := h.c4
  have HD : Hid (readyS s now = (!decide (s.du = 0) && decide (s.du ≤ now))) := Lib.hid rfl
  generalize readyS s now = r at *
  generalize s.du = du at *
  clear h
  by_cases h0 : du = 0
  · subst h0
    have HR : Hid (r = false) := Lib.hid (by rw [HD.out]; simp)
    have d1 : (((0 : Nat) : Int) != 0) = false := rfl
    go_enter Try.func6, Try.ntmps6
    go_wp2
    go_ret
    exact ⟨by rw [HR.out]; rfl, rfl⟩
  · have d1 : ((du : Int) != 0) = true := by simp [h0]
    by_cases h1 : du ≤ now
    · have d2 : decide (du ≤ now) = true := decide_eq_true h1
      have HR : Hid (r = true) := Lib.hid (by rw [HD.out]; simp [h0, h1])
      clear h0 h1
      go_enter Try.func6, Try.ntmps6
      go_wp2
      go_ret
      exact ⟨by rw [HR.out]; rfl, rfl⟩
    · have d2 : decide (du ≤ now) = false := decide_eq_false h1
      have HR : Hid (r = false) := Lib.hid (by rw [HD.out]; simp [h1])
      clear h0 h1
      go_enter Try.func6, Try.ntmps6
      go_wp2
      go_ret
      exact ⟨by rw [HR.out]; rfl, rfl⟩

theorem ready_nil (w : World) (x : Int) :
    Calls Try.prog 6 #[.pointer none, .int .u64 x] w fun e w' => e = .returned (.bool false) ∧ w = w' := by
  go_enter Try.func6, Try.ntmps6
  go_wp2
  go_ret
  exact ⟨rfl, rfl⟩
theorem came_nil (w : World) (x : Int) :
    Calls Try.prog 10 #[.pointer none, .int .u64 x] w fun e w' => e = .returned (.bool true) ∧ w = w' := by
  go_enter Try.func10, Try.ntmps10
  go_wp2
  go_ret
  exact ⟨rfl, rfl⟩
theorem hadd_nil (w : World) (x y z : Int) (b : Bool) :
    Calls Try.prog 5 #[.pointer none, .int .u64 x, .bool b, .int .u64 y, .int .u64 z] w fun e w' => e = .returned (.bool false) ∧ w = w' := by
  go_enter Try.func5, Try.ntmps5
  go_wp2_with (go_at_call 10; refine (came_nil w x).mono ?_; rintro e w1 ⟨rfl, rfl⟩)
  go_ret
  exact ⟨rfl, rfl⟩
theorem forget_nil (w : World) (x : Int) :
    Calls Try.prog 8 #[.pointer none, .int .u64 x] w fun e w' => e = .returned (.tuple #[]) ∧ w = w' := by
  go_enter Try.func8, Try.ntmps8
  go_wp2
  refine bodyPost_ret (results_none rfl _ _ _) rfl ?_
  exact ⟨rfl, rfl⟩

set_option maxRecDepth 10000 in
set_option maxHeartbeats 1000000 in
theorem want_any (w : World) (g n c now delay : Nat) (turn : Bool) (A : Option Addr) (s : HS) (h : HAt w g A n c s) (hn : now ≤ topN) :
    Calls Try.prog 19 #[.pointer (some ⟨g, 0, none⟩), .bool turn, .int .u64 (now : Int), .int .u64 (delay : Int)] w fun e w' => e = .returned (.tuple #[]) ∧ w.grownBy w' (some g) ∧ HAt w' g A n c (wantS s turn now delay) := by
  have h5 := h.c5
  have h4 := h.c4
  have f5 := h.fz 5
  have f4 := h.fz 4
  obtain ⟨q, hq⟩ : ∃ q, q = (s.co + 1) % 18446744073709551616 := ⟨_, rfl⟩
  have hw : IntKind.u64.wrap ((s.co : Int) + 1) = (q : Int) := by rw [IntKind.wrap_u64, hq]; omega
  have HS5 : Hid (HAt (w.setCell ⟨g, 5, none⟩ (.int .u64 (q : Int))) g A n c { s with co := q }) := Lib.hid (h.set 5 _ rfl rfl)
  have HG5 : Hid (w.grownBy (w.setCell ⟨g, 5, none⟩ (.int .u64 (q : Int))) (some g)) := Lib.hid (grown_set w g 5 _)
  have HW : Hid (wantS s turn now delay = if 2 ≤ q ∨ delay = 0 ∨ turn = false then { s with co := q, du := max now 1 } else if s.du = 0 then { s with co := q, du := now + min delay (topN - now) } else { s with co := q }) := Lib.hid (by subst hq; rfl)
  have HQ := Lib.hid hq
  have HFin : Hid (∀ d : Nat, HAt ((w.setCell ⟨g, 5, none⟩ (.int .u64 (q : Int))).setCell ⟨g, 4, none⟩ (.int .u64 (d : Int))) g A n c { s with co := q, du := d } ∧ w.grownBy ((w.setCell ⟨g, 5, none⟩ (.int .u64 (q : Int))).setCell ⟨g, 4, none⟩ (.int .u64 (d : Int))) (some g)) :=
    Lib.hid fun d => ⟨HS5.out.set 4 _ rfl rfl, grown_trans HG5.out (grown_set _ g 4 _)⟩
  generalize wantS s turn now delay = s2 at *
  clear h hq
  by_cases h1 : 2 ≤ q ∨ delay = 0 ∨ turn = false
  · have HE : Hid (s2 = { s with co := q, du := max now 1 }) := Lib.hid (by rw [HW.out, if_pos h1])
    have HF := Lib.hid (HFin.out (max now 1))
    clear HW HFin HS5 HG5 HQ
    obtain ⟨m, hm⟩ : ∃ m, m = max now 1 := ⟨_, rfl⟩
    rw [← hm] at HE HF
    rcases Nat.eq_zero_or_pos now with h0 | h0
    · subst h0
      obtain rfl : m = 1 := by omega
      clear hm hn
      by_cases h2 : 2 ≤ q
      · have d1 : decide ((q : Int) ≥ 2) = true := decide_eq_true (by omega)
        clear h1 h2
        go_enter Try.func19, Try.ntmps19
        go_wp2
        go_end0
        exact ⟨rfl, HF.out.2, by rw [HE.out]; exact HF.out.1⟩
      · have d1 : decide ((q : Int) ≥ 2) = false := decide_eq_false (by omega)
        by_cases h3 : delay = 0
        · subst h3
          clear h1 h2
          go_enter Try.func19, Try.ntmps19
          go_wp2
          go_end0
          exact ⟨rfl, HF.out.2, by rw [HE.out]; exact HF.out.1⟩
        · obtain rfl : turn = false := by rcases h1 with h | h | h; omega; omega; exact h
          have d3 : ((delay : Int) == 0) = false := by simp [h3]
          clear h1 h2 h3
          go_enter Try.func19, Try.ntmps19
          go_wp2
          go_end0
          exact ⟨rfl, HF.out.2, by rw [HE.out]; exact HF.out.1⟩
    · obtain rfl : m = now := by omega
      clear hm hn
      by_cases h2 : 2 ≤ q
      · have d1 : decide ((q : Int) ≥ 2) = true := decide_eq_true (by omega)
        clear h1 h2
        go_enter Try.func19, Try.ntmps19
        go_wp2
        go_end0
        exact ⟨rfl, HF.out.2, by rw [HE.out]; exact HF.out.1⟩
      · have d1 : decide ((q : Int) ≥ 2) = false := decide_eq_false (by omega)
        by_cases h3 : delay = 0
        · subst h3
          clear h1 h2
          go_enter Try.func19, Try.ntmps19
          go_wp2
          go_end0
          exact ⟨rfl, HF.out.2, by rw [HE.out]; exact HF.out.1⟩
        · obtain rfl : turn = false := by rcases h1 with h | h | h; omega; omega; exact h
          have d3 : ((delay : Int) == 0) = false := by simp [h3]
          clear h1 h2 h3
          go_enter Try.func19, Try.ntmps19
          go_wp2
          go_end0
          exact ⟨rfl, HF.out.2, by rw [HE.out]; exact HF.out.1⟩
  · have d1 : decide ((q : Int) ≥ 2) = false := decide_eq_false (by omega)
    have d3 : ((delay : Int) == 0) = false := by simp; omega
    obtain rfl : turn = true := by cases turn; exact absurd (.inr (.inr rfl)) h1; rfl
    by_cases h0 : s.du = 0
    · have d4 : ((s.du : Int) == 0) = true := by simp [h0]
      have HE : Hid (s2 = { s with co := q, du := now + min delay (topN - now) }) := Lib.hid (by rw [HW.out, if_neg h1, if_pos h0])
      have HF := Lib.hid (HFin.out (now + min delay (topN - now)))
      have HL := fun W => later_any W now delay hn
      clear HW HFin HS5 HG5 HQ h1 h0
      generalize now + min delay (topN - now) = m at *
      go_enter Try.func19, Try.ntmps19
      go_wp2_with (go_at_call 28; refine (HL _).mono ?_; rintro e w1 ⟨rfl, rfl⟩)
      go_end0
      exact ⟨rfl, HF.out.2, by rw [HE.out]; exact HF.out.1⟩
    · have d4 : ((s.du : Int) == 0) = false := by simp [h0]
      have HE : Hid (s2 = { s with co := q }) := Lib.hid (by rw [HW.out, if_neg h1, if_neg h0])
      clear HW HFin HQ h1 h0
      go_enter Try.func19, Try.ntmps19
      go_wp2
      go_end0
      exact ⟨rfl, HG5.out, by rw [HE.out]; exact HS5.out⟩

end Go.Proofs.Ytaemfoelhijbjaa
