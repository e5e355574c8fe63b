/-
  How the document's Make goes from end to end, in plain mathematics.
-/
import Derived.Test.YtkmnhlcjeebejaaSpEndsR
namespace Go.Proofs.Ytkmnhlcjeebejaa

/-- What is made, of which kind. -/
def selB (kind : Int) (x y : Bool) : Bool := if kind = 2 then x && y else if kind = 1 then x && !y else x || y

/-- The rising list of all ends. -/
def EndsOf (a b : List (Nat × Nat)) (E : List Nat) : Prop := E.Pairwise (· < ·) ∧ ∀ x, x ∈ E ↔ endB a x ∨ endB b x

theorem rise_lt {E : List Nat} (h : E.Pairwise (· < ·)) {i j x y : Nat} (hi : E[i]? = some x) (hj : E[j]? = some y) (hij : i < j) : x < y := by
  have h1 := List.getElem?_eq_some_iff.1 hi
  have h2 := List.getElem?_eq_some_iff.1 hj
  have := List.pairwise_iff_getElem.1 h i j h1.1 h2.1 hij
  rw [h1.2, h2.2] at this
  exact this

/-- Between two ends that follow one another there is none. -/
theorem no_end {E : List Nat} (h : E.Pairwise (· < ·)) {i x y z : Nat} (hi : E[i]? = some x) (hj : E[i + 1]? = some y) (hz : z ∈ E) : z ≤ x ∨ y ≤ z := by
  obtain ⟨k, hk⟩ := List.mem_iff_getElem?.1 hz
  rcases Nat.lt_or_ge i k with h1 | h1
  · rcases Nat.eq_or_lt_of_le (show i + 1 ≤ k from h1) with h2 | h2
    · subst h2
      rw [hj] at hk
      obtain rfl := Option.some.inj hk
      exact .inr (Nat.le_refl _)
    · exact .inr (Nat.le_of_lt (rise_lt h hj hk h2))
  · rcases Nat.eq_or_lt_of_le h1 with h2 | h2
    · subst h2
      rw [hi] at hk
      obtain rfl := Option.some.inj hk
      exact .inl (Nat.le_refl _)
    · exact .inl (Nat.le_of_lt (rise_lt h hk hi h2))

theorem same_between {a : List (Nat × Nat)} {x y n : Nat} (h : ∀ z, endB a z → z ≤ x ∨ y ≤ z) (h1 : x ≤ n) (h2 : n < y) : inB a n = inB a x := by
  rw [Bool.eq_iff_iff, inB_iff, inB_iff]
  constructor
  · rintro ⟨r, hr, r1, r2⟩
    refine ⟨r, hr, ?_, by omega⟩
    rcases h r.1 ⟨r, hr, .inl rfl⟩ with h3 | h3 <;> omega
  · rintro ⟨r, hr, r1, r2⟩
    refine ⟨r, hr, by omega, ?_⟩
    rcases h r.2 ⟨r, hr, .inr rfl⟩ with h3 | h3 <;> omega

theorem out_below {a : List (Nat × Nat)} {x n : Nat} (h : ∀ z, endB a z → x ≤ z) (hn : n < x) : inB a n = false := by
  cases hc : inB a n with
  | false => rfl
  | true =>
    obtain ⟨r, hr, r1, r2⟩ := inB_iff.1 hc
    have := h r.1 ⟨r, hr, .inl rfl⟩
    omega
theorem out_above {a : List (Nat × Nat)} {x n : Nat} (h : ∀ z, endB a z → z ≤ x) (hn : x ≤ n) : inB a n = false := by
  cases hc : inB a n with
  | false => rfl
  | true =>
    obtain ⟨r, hr, r1, r2⟩ := inB_iff.1 hc
    have := h r.2 ⟨r, hr, .inr rfl⟩
    omega

theorem sel_none (kind : Int) : selB kind false false = false := by
  unfold selB
  split
  · rfl
  · split <;> rfl

/-- Made up to an end. -/
structure MadeTo (W : Nat → Bool) (out : List (Nat × Nat)) (x : Nat) : Prop where
  neat : NeatL out
  le : ∀ r ∈ out, r.2 ≤ x
  mem : ∀ n, inB out n = (decide (n < x) && W n)

theorem MadeTo.skip {W : Nat → Bool} {out : List (Nat × Nat)} {x y : Nat} (h : MadeTo W out x) (hxy : x < y) (hc : ∀ n, x ≤ n → n < y → W n = W x) (hw : W x = false) : MadeTo W out y := by
  refine ⟨h.neat, fun r hr => by have := h.le r hr; omega, fun n => ?_⟩
  rw [h.mem]
  by_cases h1 : n < x
  · rw [decide_eq_true h1, decide_eq_true (show n < y by omega)]
  · by_cases h2 : n < y
    · rw [decide_eq_false h1, decide_eq_true h2, hc n (by omega) h2, hw]
      rfl
    · rw [decide_eq_false h1, decide_eq_false h2]
theorem MadeTo.longer {W : Nat → Bool} {o : List (Nat × Nat)} {z : Nat × Nat} {x y : Nat} (h : MadeTo W (o ++ [z]) x) (hxy : x < y) (hc : ∀ n, x ≤ n → n < y → W n = W x) (hw : W x = true) (hz : z.2 = x) : MadeTo W (o ++ [(z.1, y)]) y := by
  obtain ⟨h1, h2, h3⟩ := neat_snoc.1 h.neat
  refine ⟨neat_snoc.2 ⟨h1, by simp; omega, h3⟩, fun r hr => ?_, fun n => ?_⟩
  · rcases List.mem_append.1 hr with h4 | h4
    · have := h.le r (List.mem_append_left _ h4)
      omega
    · simp at h4
      subst h4
      exact Nat.le_refl _
  · have hm := h.mem n
    rw [inB_append, inB_one] at hm ⊢
    simp only
    by_cases n1 : n < x
    · have e1 : decide (n < x) = true := decide_eq_true n1
      have e2 : decide (n < y) = true := decide_eq_true (by omega)
      have e3 : decide (n < z.2) = true := decide_eq_true (by omega)
      rw [e1, e3] at hm
      rw [e2]
      exact hm
    · by_cases n2 : n < y
      · have e2 : decide (n < y) = true := decide_eq_true n2
        have e3 : decide (z.1 ≤ n) = true := decide_eq_true (by omega)
        rw [e2, e3, hc n (by omega) n2, hw]
        simp
      · have e1 : decide (n < x) = false := decide_eq_false n1
        have e2 : decide (n < y) = false := decide_eq_false n2
        have e3 : decide (n < z.2) = false := decide_eq_false (by omega)
        rw [e1, e3] at hm
        rw [e2]
        simpa using hm
theorem MadeTo.anew {W : Nat → Bool} {out : List (Nat × Nat)} {x y : Nat} (h : MadeTo W out x) (hxy : x < y) (hc : ∀ n, x ≤ n → n < y → W n = W x) (hw : W x = true) (hz : ∀ o z, out = o ++ [z] → z.2 ≠ x) : MadeTo W (out ++ [(x, y)]) y := by
  refine ⟨neat_snoc.2 ⟨h.neat, hxy, fun s hs => ?_⟩, fun r hr => ?_, fun n => ?_⟩
  · rcases List.eq_nil_or_concat out with e | ⟨o, z, e⟩
    · subst e
      cases hs
    · rw [List.concat_eq_append] at e
      have h1 := neat_last h.neat e s hs
      have h2 := h.le z (by rw [e]; simp)
      have h3 := hz o z e
      show s.2 < x
      omega
  · rcases List.mem_append.1 hr with h4 | h4
    · have := h.le r h4
      omega
    · simp at h4
      subst h4
      exact Nat.le_refl _
  · rw [inB_append, inB_one, h.mem]
    simp only
    by_cases n1 : n < x
    · rw [decide_eq_true n1, decide_eq_true (show n < y by omega), decide_eq_false (show ¬ x ≤ n by omega)]
      simp
    · by_cases n2 : n < y
      · rw [decide_eq_false n1, decide_eq_true n2, decide_eq_true (show x ≤ n by omega), hc n (by omega) n2, hw]
        rfl
      · rw [decide_eq_false n1, decide_eq_false n2]
        simp

/-- What is made of two lists. -/
theorem made_start {a b : List (Nat × Nat)} {E : List Nat} (h : EndsOf a b E) (kind : Int) {x : Nat} (hx : E[0]? = some x) : MadeTo (fun n => selB kind (inB a n) (inB b n)) [] x := by
  have hall : ∀ z ∈ E, x ≤ z := by
    intro z hz
    obtain ⟨k, hk⟩ := List.mem_iff_getElem?.1 hz
    rcases Nat.eq_zero_or_pos k with h0 | h0
    · subst h0
      rw [hx] at hk
      obtain rfl := Option.some.inj hk
      exact Nat.le_refl _
    · exact Nat.le_of_lt (rise_lt h.1 hx hk h0)
  refine ⟨neat_nil, fun r hr => (by cases hr), fun n => ?_⟩
  rw [inB_nil]
  by_cases hn : n < x
  · show false = (decide (n < x) && selB kind (inB a n) (inB b n))
    rw [out_below (fun z hz => hall z ((h.2 z).2 (.inl hz))) hn, out_below (fun z hz => hall z ((h.2 z).2 (.inr hz))) hn, sel_none]
    simp
  · simp [hn]
theorem made_const {a b : List (Nat × Nat)} {E : List Nat} (h : EndsOf a b E) (kind : Int) {i x y : Nat} (hx : E[i]? = some x) (hy : E[i + 1]? = some y) :
    x < y ∧ ∀ n, x ≤ n → n < y → (fun n => selB kind (inB a n) (inB b n)) n = (fun n => selB kind (inB a n) (inB b n)) x := by
  refine ⟨rise_lt h.1 hx hy (by omega), fun n h1 h2 => ?_⟩
  simp only
  rw [same_between (fun z hz => no_end h.1 hx hy ((h.2 z).2 (.inl hz))) h1 h2, same_between (fun z hz => no_end h.1 hx hy ((h.2 z).2 (.inr hz))) h1 h2]
theorem made_end {a b : List (Nat × Nat)} {E : List Nat} (h : EndsOf a b E) (kind : Int) {i x : Nat} {out : List (Nat × Nat)} (hx : E[i]? = some x) (hi : E.length ≤ i + 1) (hm : MadeTo (fun n => selB kind (inB a n) (inB b n)) out x) :
    NeatL out ∧ ∀ n, inB out n = selB kind (inB a n) (inB b n) := by
  have hall : ∀ z ∈ E, z ≤ x := by
    intro z hz
    obtain ⟨k, hk⟩ := List.mem_iff_getElem?.1 hz
    have hk' := (List.getElem?_eq_some_iff.1 hk).1
    rcases Nat.lt_or_ge k i with h0 | h0
    · exact Nat.le_of_lt (rise_lt h.1 hk hx h0)
    · obtain rfl : k = i := by omega
      rw [hx] at hk
      obtain rfl := Option.some.inj hk
      exact Nat.le_refl _
  refine ⟨hm.neat, fun n => ?_⟩
  rw [hm.mem]
  by_cases hn : n < x
  · simp [hn]
  · show (decide (n < x) && selB kind (inB a n) (inB b n)) = _
    rw [out_above (fun z hz => hall z ((h.2 z).2 (.inl hz))) (by omega), out_above (fun z hz => hall z ((h.2 z).2 (.inr hz))) (by omega), sel_none]
    simp
theorem made_none {a b : List (Nat × Nat)} (h : EndsOf a b []) (kind : Int) (n : Nat) : selB kind (inB a n) (inB b n) = false := by
  have ha : a = [] := by
    cases a with
    | nil => rfl
    | cons r a => have := (h.2 r.1).2 (.inl ⟨r, by simp, .inl rfl⟩); cases this
  have hb : b = [] := by
    cases b with
    | nil => rfl
    | cons r b => have := (h.2 r.1).2 (.inr ⟨r, by simp, .inl rfl⟩); cases this
  subst ha hb
  exact sel_none kind

end Go.Proofs.Ytkmnhlcjeebejaa
