/-
  Layer 12 in plain mathematics: what was heard, how many ranges there are, what a call leaves.
-/
import Derived.Test.YtaemfoelhijbjaaSpMath
namespace Go.Proofs.Ytaemfoelhijbjaa
set_option linter.unusedVariables false

/-- What was heard. -/
structure HS where
  l : List (Nat × Nat)
  fl : Nat
  la : Nat
  tm : Nat
  du : Nat
  co : Nat

def HS.new : HS := ⟨[], 0, 0, 0, 0, 0⟩

/-- As these calls leave it. -/
structure HS.Ok (s : HS) : Prop where
  neat : NeatL s.l
  fit : FitL s.l
  few : s.l.length ≤ 64
  above : ∀ x, inB s.l x = true → s.fl ≤ x
  fl : s.fl ≤ topN
  la : s.la < topN
  tm : s.tm ≤ topN
  du : s.du ≤ topN
  co : s.co ≤ topN

theorem new_ok : HS.new.Ok := ⟨neat_nil, fun _ h => (by cases h), Nat.zero_le _, fun _ h => (by cases h), Nat.zero_le _, by decide, Nat.zero_le _, Nat.zero_le _, Nat.zero_le _⟩

theorem inB_pn (pn x : Nat) : inB [(pn, pn + 1)] x = decide (x = pn) := by
  rw [inB_one]
  by_cases h : x = pn
  · subst h
    simp
  · rw [decide_eq_false h]
    simp
    omega

/-- Rising numbers, all of which are in a list, are no more than that has. -/
theorem len_sub : ∀ (l m : List Nat), l.Pairwise (· < ·) → (∀ x ∈ l, x ∈ m) → l.length ≤ m.length
  | [], m, _, _ => Nat.zero_le _
  | x :: l, m, h, hs => by
    have hx := hs x (by simp)
    rw [List.pairwise_cons] at h
    have := len_sub l (m.erase x) h.2 fun y hy => (List.mem_erase_of_ne (by have := h.1 y hy; omega)).2 (hs y (by simp [hy]))
    rw [List.length_erase_of_mem hx] at this
    have hp := List.length_pos_of_mem hx
    simp
    omega

theorem firsts_rise {l : List (Nat × Nat)} (h : NeatL l) : (l.map (·.1)).Pairwise (· < ·) := by
  rw [List.pairwise_map]
  refine h.2.imp_of_mem fun {r s} hr _ hrs => ?_
  have := h.1 r hr
  show r.1 < s.1
  omega
theorem lasts_rise {l : List (Nat × Nat)} (h : NeatL l) : (l.map (·.2)).Pairwise (· < ·) := by
  rw [List.pairwise_map]
  refine h.2.imp_of_mem fun {r s} _ hs hrs => ?_
  have := h.1 s hs
  show r.2 < s.2
  omega

/-- Two ranges of a neat list that have numbers beside each other are one. -/
theorem neat_same {l : List (Nat × Nat)} (h : NeatL l) {r s : Nat × Nat} (hr : r ∈ l) (hs : s ∈ l) (h1 : s.1 ≤ r.2) (h2 : r.1 ≤ s.2) : r = s := by
  obtain ⟨i, hi, rfl⟩ := List.getElem_of_mem hr
  obtain ⟨j, hj, rfl⟩ := List.getElem_of_mem hs
  rcases Nat.lt_trichotomy i j with hij | rfl | hij
  · have := List.pairwise_iff_getElem.1 h.2 i j hi hj hij
    omega
  · rfl
  · have := List.pairwise_iff_getElem.1 h.2 j i hj hi hij
    omega

theorem first_in {l : List (Nat × Nat)} (h : NeatL l) {r : Nat × Nat} (hr : r ∈ l) : inB l r.1 = true := inB_iff.2 ⟨r, hr, Nat.le_refl _, h.1 r hr⟩
theorem last_in {l : List (Nat × Nat)} (h : NeatL l) {r : Nat × Nat} (hr : r ∈ l) : inB l (r.2 - 1) = true := by
  have := h.1 r hr
  exact inB_iff.2 ⟨r, hr, by omega, by omega⟩
theorem first_out {l : List (Nat × Nat)} (h : NeatL l) {r : Nat × Nat} (hr : r ∈ l) (h0 : 0 < r.1) : inB l (r.1 - 1) = false := by
  cases hc : inB l (r.1 - 1) with
  | false => rfl
  | true =>
    obtain ⟨s, hs, h1, h2⟩ := inB_iff.1 hc
    have h3 := h.1 r hr
    have := neat_same h hr hs (by omega) (by omega)
    subst this
    omega
theorem last_out {l : List (Nat × Nat)} (h : NeatL l) {r : Nat × Nat} (hr : r ∈ l) : inB l r.2 = false := by
  cases hc : inB l r.2 with
  | false => rfl
  | true =>
    obtain ⟨s, hs, h1, h2⟩ := inB_iff.1 hc
    have h3 := h.1 r hr
    have := neat_same h hr hs (by omega) (by omega)
    subst this
    omega

/-- A number more makes one range more at most. -/
theorem one_more {a c : List (Nat × Nat)} (hc : NeatL c) {pn : Nat} (hi : ∀ x, inB c x = (inB a x || decide (x = pn))) : c.length ≤ a.length + 1 := by
  have := len_sub (c.map (·.1)) (pn :: a.map (·.1)) (firsts_rise hc) fun x hx => by
    obtain ⟨r, hr, rfl⟩ := List.mem_map.1 hx
    by_cases hp : r.1 = pn
    · simp [hp]
    · have h1 := first_in hc hr
      rw [hi, decide_eq_false hp, Bool.or_false] at h1
      obtain ⟨s, hs, h2, h3⟩ := inB_iff.1 h1
      by_cases he : s.1 = r.1
      · exact List.mem_cons_of_mem _ (List.mem_map.2 ⟨s, hs, he⟩)
      · have h4 := first_out hc hr (by omega)
        rw [hi, Bool.or_eq_false_iff] at h4
        have : inB a (r.1 - 1) = true := inB_iff.2 ⟨s, hs, by omega, by omega⟩
        rw [this] at h4
        cases h4.1
  simpa using this

/-- What is left from a number on is of no more ranges. -/
theorem cut_less {a c : List (Nat × Nat)} (hc : NeatL c) {f : Nat} (hi : ∀ x, inB c x = (inB a x && decide (f ≤ x))) : c.length ≤ a.length := by
  have := len_sub (c.map (·.2)) (a.map (·.2)) (lasts_rise hc) fun x hx => by
    obtain ⟨r, hr, rfl⟩ := List.mem_map.1 hx
    have h1 := last_in hc hr
    have h2 := last_out hc hr
    have h3 := hc.1 r hr
    rw [hi, Bool.and_eq_true] at h1
    have h4 := of_decide_eq_true h1.2
    rw [hi, decide_eq_true (show f ≤ r.2 by omega), Bool.and_true] at h2
    obtain ⟨s, hs, h5, h6⟩ := inB_iff.1 h1.1
    by_cases he : s.2 = r.2
    · exact List.mem_map.2 ⟨s, hs, he⟩
    · have : inB a r.2 = true := inB_iff.2 ⟨s, hs, by omega, by omega⟩
      rw [this] at h2
      cases h2
  simpa using this

/-! The calls. -/

/-- Whether the number counts as having come. -/
def cameS (s : HS) (pn : Nat) : Bool := decide (pn < s.fl) || inB s.l pn
def firstS (s : HS) : Bool := s.l.isEmpty && decide (s.fl = 0)
def inTurnS (s : HS) (pn : Nat) : Bool := firstS s || decide (pn = s.la + 1)
/-- The greatest one, and when it came. -/
def bigS (s : HS) (pn now : Nat) : HS := if firstS s || decide (s.la < pn) then { s with la := pn, tm := now } else s
/-- The list that the number makes, of no more than 64 ranges. -/
def keptS (s : HS) : List (Nat × Nat) → HS
  | r :: q :: t => if 64 < (r :: q :: t).length then { s with l := q :: t, fl := q.1 } else { s with l := r :: q :: t }
  | l => { s with l := l }
def wantS (s : HS) (turn : Bool) (now delay : Nat) : HS :=
  if 2 ≤ (s.co + 1) % 18446744073709551616 ∨ delay = 0 ∨ turn = false then { s with co := (s.co + 1) % 18446744073709551616, du := max now 1 }
  else if s.du = 0 then { s with co := (s.co + 1) % 18446744073709551616, du := now + min delay (topN - now) }
  else { s with co := (s.co + 1) % 18446744073709551616 }
/-- What is heard behind a number that did not come yet; l: the list with it. -/
def addedS (s : HS) (pn : Nat) (wants : Bool) (now delay : Nat) (l : List (Nat × Nat)) : HS :=
  if wants then wantS (keptS (bigS s pn now) l) (inTurnS s pn) now delay else keptS (bigS s pn now) l
/-- The list with a number more. -/
def Grown (s : HS) (pn : Nat) (l : List (Nat × Nat)) : Prop := NeatL l ∧ FitL l ∧ ∀ x, inB l x = (inB s.l x || decide (x = pn))
/-- The list without what is below a number. -/
def Shorn (s : HS) (f : Nat) (l : List (Nat × Nat)) : Prop := NeatL l ∧ FitL l ∧ ∀ x, inB l x = (inB s.l x && decide (f ≤ x))

theorem bigS_l (s : HS) (pn now : Nat) : (bigS s pn now).l = s.l ∧ (bigS s pn now).fl = s.fl ∧ (bigS s pn now).du = s.du ∧ (bigS s pn now).co = s.co := by
  unfold bigS
  split <;> exact ⟨rfl, rfl, rfl, rfl⟩
theorem wantS_l (s : HS) (t : Bool) (now delay : Nat) : (wantS s t now delay).l = s.l ∧ (wantS s t now delay).fl = s.fl ∧ (wantS s t now delay).la = s.la ∧ (wantS s t now delay).tm = s.tm := by
  unfold wantS
  split
  · exact ⟨rfl, rfl, rfl, rfl⟩
  · split <;> exact ⟨rfl, rfl, rfl, rfl⟩

theorem bigS_ok {s : HS} (h : s.Ok) {pn now : Nat} (hp : pn < topN) (hn : now ≤ topN) : (bigS s pn now).Ok := by
  unfold bigS
  split
  · exact ⟨h.neat, h.fit, h.few, h.above, h.fl, hp, hn, h.du, h.co⟩
  · exact h
theorem wantS_ok {s : HS} (h : s.Ok) (t : Bool) {now : Nat} (delay : Nat) (hn : now ≤ topN) : (wantS s t now delay).Ok := by
  have hc : (s.co + 1) % 18446744073709551616 ≤ topN := by unfold topN; omega
  unfold wantS
  split
  · exact ⟨h.neat, h.fit, h.few, h.above, h.fl, h.la, h.tm, by simp only [topN] at *; omega, hc⟩
  · split
    · exact ⟨h.neat, h.fit, h.few, h.above, h.fl, h.la, h.tm, by simp only [topN] at *; omega, hc⟩
    · exact ⟨h.neat, h.fit, h.few, h.above, h.fl, h.la, h.tm, h.du, hc⟩

/-- What is kept of a list that a number more made: neat, of at most 64 ranges; what is left out counts as having come. -/
theorem keptS_ok {s : HS} (h : s.Ok) {pn : Nat} {l : List (Nat × Nat)} (hg : Grown s pn l) (hf : s.fl ≤ pn) :
    (keptS s l).Ok ∧ (∀ x, inB (keptS s l).l x = true → inB l x = true) ∧ (∀ x, inB l x = true → cameS (keptS s l) x = true) ∧ s.fl ≤ (keptS s l).fl ∧ (keptS s l).la = s.la ∧ (keptS s l).tm = s.tm ∧ (keptS s l).du = s.du ∧ (keptS s l).co = s.co := by
  obtain ⟨hn, hfit, hi⟩ := hg
  have hlen := one_more hn hi
  have hab : ∀ x, inB l x = true → s.fl ≤ x := by
    intro x hx
    rw [hi, Bool.or_eq_true] at hx
    rcases hx with hx | hx
    · exact h.above x hx
    · have := of_decide_eq_true hx
      omega
  have hfew := h.few
  have plain : l.length ≤ 64 → ({ s with l := l } : HS).Ok ∧ (∀ x, inB l x = true → inB l x = true) ∧ (∀ x, inB l x = true → cameS { s with l := l } x = true) ∧ s.fl ≤ s.fl :=
    fun h64 => ⟨⟨hn, hfit, h64, hab, h.fl, h.la, h.tm, h.du, h.co⟩, fun _ h => h, fun x hx => by simp [cameS, hx], Nat.le_refl _⟩
  match l, hn, hfit, hi, hlen, hab, plain with
  | [], _, _, _, hlen, _, plain => exact ⟨(plain (by simp)).1, (plain (by simp)).2.1, (plain (by simp)).2.2.1, Nat.le_refl _, rfl, rfl, rfl, rfl⟩
  | [r], _, _, _, hlen, _, plain => exact ⟨(plain (by simp)).1, (plain (by simp)).2.1, (plain (by simp)).2.2.1, Nat.le_refl _, rfl, rfl, rfl, rfl⟩
  | r :: q :: t, hn, hfit, hi, hlen, hab, plain =>
    by_cases h64 : 64 < (r :: q :: t).length
    · rw [show keptS s (r :: q :: t) = { s with l := q :: t, fl := q.1 } from if_pos h64]
      obtain ⟨n1, n2, n3⟩ := neat_cons.1 hn
      obtain ⟨m1, m2, m3⟩ := neat_cons.1 n3
      have hq := hfit q (by simp)
      have hrq := n2 q (by simp)
      have hqx : inB (r :: q :: t) q.1 = true := by
        rw [inB_cons, inB_cons]
        simp [m1]
      have hqf := hab _ hqx
      refine ⟨⟨n3, fun x hx => hfit x (by simp [hx]), by simp at hlen ⊢; omega, fun x hx => inB_ge n3 hx, hq.1, h.la, h.tm, h.du, h.co⟩, fun x hx => ?_, fun x hx => ?_, hqf, rfl, rfl, rfl, rfl⟩
      · rw [inB_cons, hx, Bool.or_true]
      · rw [inB_cons, Bool.or_eq_true] at hx
        rcases hx with hx | hx
        · rw [Bool.and_eq_true] at hx
          have := of_decide_eq_true hx.2
          have h1 : decide (x < q.1) = true := decide_eq_true (by omega)
          simp [cameS, h1]
        · simp [cameS, hx]
    · rw [show keptS s (r :: q :: t) = { s with l := r :: q :: t } from if_neg h64]
      exact ⟨(plain (by omega)).1, (plain (by omega)).2.1, (plain (by omega)).2.2.1, Nat.le_refl _, rfl, rfl, rfl, rfl⟩

/-- What Add leaves. -/
theorem addedS_ok {s : HS} (h : s.Ok) {pn now : Nat} (wants : Bool) (delay : Nat) {l : List (Nat × Nat)} (hg : Grown s pn l) (hf : s.fl ≤ pn) (hp : pn < topN) (hn : now ≤ topN) :
    (addedS s pn wants now delay l).Ok ∧ (∀ x, inB (addedS s pn wants now delay l).l x = true → inB l x = true) ∧ (∀ x, inB l x = true → cameS (addedS s pn wants now delay l) x = true) ∧ s.fl ≤ (addedS s pn wants now delay l).fl := by
  have hb := bigS_l s pn now
  have hg' : Grown (bigS s pn now) pn l := by
    unfold Grown
    rw [hb.1]
    exact hg
  obtain ⟨k1, k2, k3, k4, _⟩ := keptS_ok (bigS_ok h hp hn) hg' (by rw [hb.2.1]; exact hf)
  rw [hb.2.1] at k4
  unfold addedS
  cases wants with
  | false => exact ⟨k1, k2, k3, k4⟩
  | true =>
    have hw := wantS_l (keptS (bigS s pn now) l) (inTurnS s pn) now delay
    simp only [if_true]
    refine ⟨wantS_ok k1 _ _ hn, fun x hx => k2 x (by rw [hw.1] at hx; exact hx), fun x hx => ?_, by rw [hw.2.1]; exact k4⟩
    have := k3 x hx
    unfold cameS at this ⊢
    rw [hw.1, hw.2.1]
    exact this

/-- What Forget leaves. -/
theorem shorn_ok {s : HS} (h : s.Ok) {below : Nat} {l : List (Nat × Nat)} (hb : below ≤ topN) (hg : Shorn s (max s.fl below) l) : ({ s with fl := max s.fl below, l := l } : HS).Ok := by
  obtain ⟨hn, hf, hi⟩ := hg
  have hlen := cut_less hn hi
  have := h.few
  have := h.fl
  refine ⟨hn, hf, by show l.length ≤ 64; omega, fun x hx => ?_, by show max s.fl below ≤ topN; omega, h.la, h.tm, h.du, h.co⟩
  rw [show inB l x = _ from hi x, Bool.and_eq_true] at hx
  exact of_decide_eq_true hx.2

/-- The last ranges of a list. -/
theorem neat_drop {l : List (Nat × Nat)} (h : NeatL l) (k : Nat) : NeatL (l.drop k) := ⟨fun r hr => h.1 r (List.mem_of_mem_drop hr), h.2.sublist (List.drop_sublist k l)⟩
theorem inB_drop {l : List (Nat × Nat)} {k x : Nat} (h : inB (l.drop k) x = true) : inB l x = true := by
  obtain ⟨r, hr, h1⟩ := inB_iff.1 h
  exact inB_iff.2 ⟨r, List.mem_of_mem_drop hr, h1⟩
theorem neat_empty {l : List (Nat × Nat)} (h : NeatL l) (hi : ∀ x, inB l x = false) : l = [] := neat_unique h neat_nil fun x => by rw [hi]; rfl

end Go.Proofs.Ytaemfoelhijbjaa
