/-
  Layer 14 in plain numbers: a window, what is on its way, what came, what was lost. No program is named here.
-/
import Derived.Test.YtmidlgojknfooaaWords
namespace Go.Proofs.Ytmidlgojknfooaa

/-- What bytes come to at most, and what a size counts at most. -/
def mB : Nat := 4611686018427387904
def cN (n : Nat) : Nat := min n 1099511627776
/-- The greatest number of 64 bits. -/
def mU : Nat := 18446744073709551615

/-- A window. -/
structure NS where
  wi : Nat
  th : Nat
  fl : Nat
  si : Nat
  rc : Bool
  ac : Nat

def NS.new : NS := ⟨12000, mB, 0, 0, false, 0⟩

/-- More, and less, by all of the sizes. -/
def moreL (b : Nat) (l : List Nat) : Nat := l.foldl (fun b n => min (b + cN n) mB) b
def moreN (b : Nat) (l : List Nat) : Nat := moreL (min b mB) l
def lessL (f : Nat) (l : List Nat) : Nat := l.foldl (fun f n => f - min f (cN n)) f
def goneN (f : Nat) (l : List Nat) : Nat := min (lessL f l) mB

theorem moreL_step {l : List Nat} {k x : Nat} (h : l[k]? = some x) (b : Nat) : moreL b (l.take (k + 1)) = min (moreL b (l.take k) + cN x) mB := by
  unfold moreL
  rw [List.take_add_one, h, List.foldl_append]
  rfl
theorem lessL_step {l : List Nat} {k x : Nat} (h : l[k]? = some x) (f : Nat) : lessL f (l.take (k + 1)) = lessL f (l.take k) - min (lessL f (l.take k)) (cN x) := by
  unfold lessL
  rw [List.take_add_one, h, List.foldl_append]
  rfl
theorem moreL_le {b : Nat} (hb : b ≤ mB) (l : List Nat) : moreL b l ≤ mB := by
  unfold moreL
  induction l generalizing b with
  | nil => exact hb
  | cons x l ih => exact ih (Nat.min_le_right _ _)
theorem moreN_le (b : Nat) (l : List Nat) : moreN b l ≤ mB := moreL_le (by omega) l
theorem lessL_le (f : Nat) (l : List Nat) : lessL f l ≤ f := by
  unfold lessL
  induction l generalizing f with
  | nil => exact Nat.le_refl _
  | cons x l ih => exact Nat.le_trans (ih _) (Nat.sub_le _ _)
theorem goneN_le (f : Nat) (l : List Nat) : goneN f l ≤ f := Nat.le_trans (Nat.min_le_left _ _) (lessL_le f l)
theorem more_one (b n : Nat) : moreN b [n] = min (min b mB + cN n) mB := rfl

/-- Whether what was sent at that tick is of the recovery. -/
def NS.own (s : NS) (t : Nat) : Bool := s.rc && decide (t ≤ s.si)
/-- Whether so many bytes more may be. -/
def NS.may (s : NS) (n : Nat) : Bool := decide (s.fl ≤ s.wi) && decide (cN n ≤ s.wi - s.fl)

/-- The window grows by a Unit for each window of bytes that came. -/
inductive AvR : Nat → Nat → Nat → Nat → Nat → Prop
  | stop {W A z : Nat} : A + z < W → AvR W A z W (A + z)
  | step {W A z W' A' : Nat} : W ≤ A + z → AvR (W + min 1200 (mU - W)) (A - min A W) (z - (W - min A W)) W' A' → AvR W A z W' A'

theorem AvR.grows {W A z W' A' : Nat} (h : AvR W A z W' A') : W ≤ W' ∧ A' < W' ∧ (W ≤ mU → W' ≤ mU) := by
  induction h with
  | stop h => exact ⟨Nat.le_refl _, h, id⟩
  | step h _ ih => exact ⟨by omega, ih.2.1, fun hw => ih.2.2 (by omega)⟩

/-- What came of that size, sent at that tick. -/
def AckR (s : NS) (t n : Nat) (s' : NS) : Prop :=
  if s.own t = true then s' = { s with fl := goneN s.fl [n] }
  else if s.wi < s.th then s' = { s with fl := goneN s.fl [n], rc := false, wi := moreN s.wi [n] }
  else ∃ W A, AvR s.wi s.ac (cN n) W A ∧ s' = { s with fl := goneN s.fl [n], rc := false, wi := W, ac := A }
/-- What was lost. -/
def lostS (s : NS) (t now : Nat) : NS := if s.own t = true then s else ⟨max (s.wi / 2) 2400, max (s.wi / 2) 2400, s.fl, now, true, 0⟩
def worstS (s : NS) : NS := { s with wi := 2400, rc := false, ac := 0 }

/-- What holds of a window at every time. -/
structure NS.Ok (s : NS) : Prop where
  low : 2400 ≤ s.wi
  wi : s.wi ≤ mU
  th : s.th ≤ mU
  fl : s.fl ≤ mU
  si : s.si ≤ mU
  ac : s.ac ≤ mU
  slow : s.wi ≤ mB ∨ s.th ≤ s.wi

theorem new_okN : NS.new.Ok := by
  constructor <;> decide
theorem NS.Ok.sent {s : NS} (h : s.Ok) (l : List Nat) : NS.Ok { s with fl := moreN s.fl l } :=
  ⟨h.low, h.wi, h.th, Nat.le_trans (moreN_le _ _) (by decide), h.si, h.ac, h.slow⟩
theorem NS.Ok.gone {s : NS} (h : s.Ok) (l : List Nat) : NS.Ok { s with fl := goneN s.fl l } :=
  ⟨h.low, h.wi, h.th, Nat.le_trans (goneN_le _ _) h.fl, h.si, h.ac, h.slow⟩
theorem NS.Ok.acked {s s' : NS} (h : s.Ok) {t n : Nat} (k : AckR s t n s') : s'.Ok ∧ s.wi ≤ s'.wi := by
  have hg : goneN s.fl [n] ≤ mU := Nat.le_trans (goneN_le _ _) h.fl
  unfold AckR at k
  split at k
  · subst k
    exact ⟨⟨h.low, h.wi, h.th, hg, h.si, h.ac, h.slow⟩, Nat.le_refl _⟩
  · split at k
    · subst k
      rename_i hlt
      have hw : s.wi ≤ mB := by have := h.slow; omega
      have h1 := moreN_le s.wi [n]
      have h2 : s.wi ≤ moreN s.wi [n] := by rw [more_one]; omega
      have h3 := h.low
      have h4 : mB ≤ mU := by decide
      exact ⟨⟨Nat.le_trans h3 h2, Nat.le_trans h1 h4, h.th, hg, h.si, h.ac, .inl h1⟩, h2⟩
    · obtain ⟨W, A, hr, rfl⟩ := k
      rename_i hlt
      obtain ⟨h1, h2, h3⟩ := hr.grows
      have h4 := h3 h.wi
      have h5 := h.low
      exact ⟨⟨by dsimp only; omega, h4, h.th, hg, h.si, by dsimp only; omega, .inr (by dsimp only; omega)⟩, h1⟩
theorem NS.Ok.lost {s : NS} (h : s.Ok) (t : Nat) {now : Nat} (hn : now ≤ mU) : (lostS s t now).Ok ∧ s.wi / 2 ≤ (lostS s t now).wi := by
  unfold lostS
  split
  · exact ⟨h, by omega⟩
  · have h1 := h.wi
    have h2 : 2400 ≤ mU := by decide
    exact ⟨⟨by dsimp only; omega, by dsimp only; omega, by dsimp only; omega, h.fl, hn, Nat.zero_le _, .inr (Nat.le_refl _)⟩, by dsimp only; omega⟩
theorem NS.Ok.worst {s : NS} (h : s.Ok) : (worstS s).Ok := by
  have h2 : 2400 ≤ mU := by decide
  exact ⟨Nat.le_refl _, h2, h.th, h.fl, h.si, Nat.zero_le _, .inl (show 2400 ≤ mB by decide)⟩
theorem lost_own {s : NS} {t now : Nat} (h : s.own t = true) : lostS s t now = s := by
  unfold lostS
  rw [if_pos h]

end Go.Proofs.Ytmidlgojknfooaa
