/-
  Sets of numbers as ranges, in plain mathematics: neat lists, that there is one of each set, what a list's ends tell, how a sweep over two lists and a merge of a sorted list give neat lists, how many numbers there are. No program is named here.
-/
namespace Go.Proofs.Ytaemfoelhijbjaa

/-- The number that is in no range. -/
def topN : Nat := 18446744073709551615

/-- Is the number in one of the ranges? -/
def inB (l : List (Nat × Nat)) (n : Nat) : Bool := l.any fun r => decide (r.1 ≤ n) && decide (n < r.2)

theorem inB_iff {l : List (Nat × Nat)} {n : Nat} : inB l n = true ↔ ∃ r ∈ l, r.1 ≤ n ∧ n < r.2 := by
  simp [inB]

@[simp] theorem inB_nil (n : Nat) : inB [] n = false := rfl

theorem inB_cons (r : Nat × Nat) (l : List (Nat × Nat)) (n : Nat) : inB (r :: l) n = (decide (r.1 ≤ n) && decide (n < r.2) || inB l n) := by
  simp [inB]

theorem inB_append (a b : List (Nat × Nat)) (n : Nat) : inB (a ++ b) n = (inB a n || inB b n) := by
  simp [inB]

theorem inB_one (r : Nat × Nat) (n : Nat) : inB [r] n = (decide (r.1 ≤ n) && decide (n < r.2)) := by
  simp [inB]

/-- A neat list. -/
def NeatL (l : List (Nat × Nat)) : Prop := (∀ r ∈ l, r.1 < r.2) ∧ l.Pairwise (fun r s => r.2 < s.1)

/-- No range goes above the number that is in none. -/
def FitL (l : List (Nat × Nat)) : Prop := ∀ r ∈ l, r.1 ≤ topN ∧ r.2 ≤ topN

theorem neat_nil : NeatL [] := ⟨fun _ h => (by cases h), List.Pairwise.nil⟩

theorem neat_cons {r : Nat × Nat} {l : List (Nat × Nat)} : NeatL (r :: l) ↔ r.1 < r.2 ∧ (∀ s ∈ l, r.2 < s.1) ∧ NeatL l := by
  unfold NeatL
  rw [List.pairwise_cons, List.forall_mem_cons]
  constructor
  · rintro ⟨⟨a, b⟩, c, d⟩
    exact ⟨a, c, b, d⟩
  · rintro ⟨a, c, b, d⟩
    exact ⟨⟨a, b⟩, c, d⟩

theorem neat_snoc {r : Nat × Nat} {l : List (Nat × Nat)} : NeatL (l ++ [r]) ↔ NeatL l ∧ r.1 < r.2 ∧ ∀ s ∈ l, s.2 < r.1 := by
  unfold NeatL
  rw [List.pairwise_append, List.forall_mem_append]
  constructor
  · rintro ⟨⟨a, b⟩, c, _, d⟩
    exact ⟨⟨a, c⟩, b r (by simp), fun s hs => d s hs r (by simp)⟩
  · rintro ⟨⟨a, c⟩, b, d⟩
    exact ⟨⟨a, fun s hs => by simp at hs; subst hs; exact b⟩, c, by simp, fun s hs z hz => by simp at hz; subst hz; exact d s hs⟩

theorem neat_last {l : List (Nat × Nat)} (h : NeatL l) {z : Nat × Nat} {i : List (Nat × Nat)} (e : l = i ++ [z]) : ∀ s ∈ l, s.2 ≤ z.2 := by
  subst e
  obtain ⟨_, hz, hi⟩ := neat_snoc.1 h
  intro s hs
  rcases List.mem_append.1 hs with h1 | h1
  · have := hi s h1
    omega
  · simp at h1
    subst h1
    exact Nat.le_refl _

theorem neat_take {l : List (Nat × Nat)} (h : NeatL l) (k : Nat) : NeatL (l.take k) :=
  ⟨fun r hr => h.1 r (List.mem_of_mem_take hr), h.2.sublist (List.take_sublist _ _)⟩

/-- What a scan from range to range tells: neat up to k, and the next one too. -/
theorem neat_step {l : List (Nat × Nat)} {k : Nat} {r : Nat × Nat} (hr : l[k]? = some r) (h : NeatL (l.take k)) (h1 : r.1 < r.2) (h2 : ∀ j z, k = j + 1 → l[j]? = some z → z.2 < r.1) : NeatL (l.take (k + 1)) := by
  have hk := (List.getElem?_eq_some_iff.1 hr).1
  have e : l.take (k + 1) = l.take k ++ [r] := by rw [List.take_add_one, hr]; rfl
  rw [e, neat_snoc]
  refine ⟨h, h1, fun s hs => ?_⟩
  cases k with
  | zero => simp at hs
  | succ j =>
    obtain ⟨z, hz⟩ : ∃ z, l[j]? = some z := ⟨_, List.getElem?_eq_getElem (by omega)⟩
    have e2 : l.take (j + 1) = l.take j ++ [z] := by rw [List.take_add_one, hz]; rfl
    have := neat_last h e2 s hs
    have := h2 j z rfl hz
    omega

theorem neat_no {l : List (Nat × Nat)} {k : Nat} {r : Nat × Nat} (hr : l[k]? = some r) (h : NeatL l) : r.1 < r.2 ∧ ∀ j z, k = j + 1 → l[j]? = some z → z.2 < r.1 := by
  refine ⟨h.1 r (List.mem_of_getElem? hr), fun j z hk hz => ?_⟩
  subst hk
  have h1 := (List.getElem?_eq_some_iff.1 hr)
  have h2 := (List.getElem?_eq_some_iff.1 hz)
  have := List.pairwise_iff_getElem.1 h.2 j (j + 1) h2.1 h1.1 (by omega)
  rw [h1.2, h2.2] at this
  exact this

theorem inB_ge {r : Nat × Nat} {l : List (Nat × Nat)} (h : NeatL (r :: l)) {n : Nat} (hn : inB (r :: l) n = true) : r.1 ≤ n := by
  obtain ⟨s, hs, h1, _⟩ := inB_iff.1 hn
  obtain ⟨a, b, _⟩ := neat_cons.1 h
  rcases List.mem_cons.1 hs with rfl | hs
  · exact h1
  · have := b s hs
    omega

theorem inB_tail {r : Nat × Nat} {l : List (Nat × Nat)} (h : NeatL (r :: l)) {n : Nat} (hn : inB l n = true) : r.2 < n := by
  obtain ⟨s, hs, h1, _⟩ := inB_iff.1 hn
  obtain ⟨_, b, _⟩ := neat_cons.1 h
  have := b s hs
  omega

/-- Each set of numbers has one neat list. -/
theorem neat_unique : ∀ {a b : List (Nat × Nat)}, NeatL a → NeatL b → (∀ n, inB a n = inB b n) → a = b
  | [], [], _, _, _ => rfl
  | [], s :: b, _, hb, h => by
    have := h s.1
    obtain ⟨h1, _⟩ := neat_cons.1 hb
    simp [inB_cons, h1] at this
  | r :: a, [], ha, _, h => by
    have := h r.1
    obtain ⟨h1, _⟩ := neat_cons.1 ha
    simp [inB_cons, h1] at this
  | r :: a, s :: b, ha, hb, h => by
    obtain ⟨r1, _, ha'⟩ := neat_cons.1 ha
    obtain ⟨s1, _, hb'⟩ := neat_cons.1 hb
    have g1 : s.1 ≤ r.1 := inB_ge hb (by rw [← h r.1, inB_cons]; simp [r1])
    have g2 : r.1 ≤ s.1 := inB_ge ha (by rw [h s.1, inB_cons]; simp [s1])
    have e1 : r.1 = s.1 := by omega
    have key : ∀ {r s : Nat × Nat} {a b : List (Nat × Nat)}, NeatL (r :: a) → NeatL (s :: b) → (∀ n, inB (r :: a) n = inB (s :: b) n) → r.1 = s.1 → ¬ r.2 < s.2 := by
      intro r s a b ha hb h e hlt
      obtain ⟨r1, _, _⟩ := neat_cons.1 ha
      have hs : inB (s :: b) r.2 = true := by rw [inB_cons]; simp [hlt]; omega
      rw [← h, inB_cons] at hs
      simp at hs
      have := inB_tail ha hs
      omega
    have e2 : r.2 = s.2 := by
      have := key ha hb h e1
      have := key hb ha (fun n => (h n).symm) e1.symm
      omega
    have e : r = s := Prod.ext e1 e2
    subst e
    refine congrArg _ (neat_unique ha' hb' fun n => ?_)
    have hn := h n
    rw [inB_cons, inB_cons] at hn
    by_cases hin : r.1 ≤ n ∧ n < r.2
    · have f1 : inB a n = false := by
        cases hc : inB a n with
        | false => rfl
        | true => have := inB_tail ha hc; omega
      have f2 : inB b n = false := by
        cases hc : inB b n with
        | false => rfl
        | true => have := inB_tail hb hc; omega
      rw [f1, f2]
    · have : (decide (r.1 ≤ n) && decide (n < r.2)) = false := by simp; omega
      rw [this] at hn
      simpa using hn

/-! What a neat list's ends tell. -/

/-- Whether the number is in the neat list, and up to which one that stays so. -/
def lookL : List (Nat × Nat) → Nat → Bool × Nat
  | [], _ => (false, topN)
  | r :: l, x => if r.2 ≤ x then lookL l x else if x < r.1 then (false, r.1) else (true, r.2)

theorem lookL_in : ∀ {l : List (Nat × Nat)}, NeatL l → ∀ x, (lookL l x).1 = inB l x
  | [], _, _ => rfl
  | r :: l, h, x => by
    obtain ⟨h1, h2, h3⟩ := neat_cons.1 h
    unfold lookL
    rw [inB_cons]
    split
    · rw [lookL_in h3]
      have : decide (x < r.2) = false := decide_eq_false (by omega)
      simp [this]
    · have ht : inB l x = false := by
        cases hc : inB l x with
        | false => rfl
        | true => have := inB_tail h hc; omega
      rw [ht]
      split
      · have : decide (r.1 ≤ x) = false := decide_eq_false (by omega)
        simp [this]
      · have e1 : decide (r.1 ≤ x) = true := decide_eq_true (by omega)
        have e2 : decide (x < r.2) = true := decide_eq_true (by omega)
        simp [e1, e2]

theorem lookL_end : ∀ {l : List (Nat × Nat)}, NeatL l → FitL l → ∀ x, x < topN → x < (lookL l x).2 ∧ (lookL l x).2 ≤ topN ∧ (∀ n, x ≤ n → n < (lookL l x).2 → inB l n = inB l x)
  | [], _, _, x, hx => ⟨hx, Nat.le_refl _, fun _ _ _ => rfl⟩
  | r :: l, h, hf, x, hx => by
    obtain ⟨h1, h2, h3⟩ := neat_cons.1 h
    have hr := hf r (by simp)
    unfold lookL
    split
    · rename_i hle
      obtain ⟨a, b, c⟩ := lookL_end h3 (fun s hs => hf s (by simp [hs])) x hx
      refine ⟨a, b, fun n n1 n2 => ?_⟩
      rw [inB_cons, inB_cons, c n n1 n2]
      have e1 : decide (n < r.2) = false := decide_eq_false (by omega)
      have e2 : decide (x < r.2) = false := decide_eq_false (by omega)
      simp [e1, e2]
    · have ht : ∀ n, n < r.2 → inB l n = false := by
        intro n hn
        cases hc : inB l n with
        | false => rfl
        | true => have := inB_tail h hc; omega
      split
      · rename_i hlt
        refine ⟨hlt, hr.1, fun n n1 n2 => ?_⟩
        rw [inB_cons, inB_cons, ht n (by simp at n2; omega), ht x (by omega)]
        have e1 : decide (r.1 ≤ n) = false := decide_eq_false (by simp at n2; omega)
        have e2 : decide (r.1 ≤ x) = false := decide_eq_false (by omega)
        simp [e1, e2]
      · refine ⟨by show x < r.2; omega, hr.2, fun n n1 n2 => ?_⟩
        have n2' : n < r.2 := n2
        rw [inB_cons, inB_cons]
        have e1 : decide (r.1 ≤ n) = true := decide_eq_true (by omega)
        have e2 : decide (r.1 ≤ x) = true := decide_eq_true (by omega)
        have e3 : decide (n < r.2) = true := decide_eq_true (by omega)
        have e4 : decide (x < r.2) = true := decide_eq_true (by omega)
        simp [e1, e2, e3, e4]

theorem fit_in {l : List (Nat × Nat)} (hf : FitL l) {n : Nat} (h : inB l n = true) : n < topN := by
  obtain ⟨r, hr, _, h2⟩ := inB_iff.1 h
  have := hf r hr
  omega

/-- Behind a range of a neat list a number is missing. -/
theorem lookL_gap : ∀ {l : List (Nat × Nat)}, NeatL l → ∀ x, inB l x = true → inB l (lookL l x).2 = false
  | [], _, _, h => by cases h
  | r :: l, h, x, hx => by
    obtain ⟨h1, h2, h3⟩ := neat_cons.1 h
    rw [inB_cons] at hx
    unfold lookL
    by_cases hle : r.2 ≤ x
    · rw [if_pos hle]
      have : decide (x < r.2) = false := decide_eq_false (by omega)
      have hx' : inB l x = true := by simpa [this] using hx
      rw [inB_cons, lookL_gap h3 x hx']
      have hgt : r.2 ≤ (lookL l x).2 := by
        have key : ∀ (l : List (Nat × Nat)), NeatL l → inB l x = true → x < (lookL l x).2 := by
          intro l
          induction l with
          | nil => intro _ h; cases h
          | cons s l ih =>
            intro hn hin
            obtain ⟨s1, s2, s3⟩ := neat_cons.1 hn
            unfold lookL
            by_cases h1 : s.2 ≤ x
            · rw [if_pos h1]
              rw [inB_cons] at hin
              have : decide (x < s.2) = false := decide_eq_false (by omega)
              exact ih s3 (by simpa [this] using hin)
            · rw [if_neg h1]
              have := inB_ge hn hin
              rw [if_neg (by omega)]
              show x < s.2
              omega
        have := key l h3 hx'
        omega
      have : decide ((lookL l x).2 < r.2) = false := decide_eq_false (by omega)
      simp [this]
    · rw [if_neg hle]
      have hr : r.1 ≤ x := inB_ge h (by rw [inB_cons]; exact hx)
      rw [if_neg (by omega)]
      show inB (r :: l) r.2 = false
      rw [inB_cons]
      cases hc : inB l r.2 with
      | false => simp
      | true => have := inB_tail h hc; omega

/-- Ranges that end at or below a number may be left out of what is asked from it on. -/
theorem lookL_drop {r : Nat × Nat} {l : List (Nat × Nat)} {x y : Nat} (h : r.2 ≤ x) (hy : x ≤ y) : lookL (r :: l) y = lookL l y := by
  rw [lookL, if_pos (by omega)]

/-! How many ends are above a number. -/

def endsAbove (l : List (Nat × Nat)) (x : Nat) : Nat := (l.filter fun r => decide (x < r.1)).length + (l.filter fun r => decide (x < r.2)).length

theorem ea_cons (r : Nat × Nat) (l : List (Nat × Nat)) (x : Nat) : endsAbove (r :: l) x = (if x < r.1 then 1 else 0) + (if x < r.2 then 1 else 0) + endsAbove l x := by
  unfold endsAbove
  by_cases h1 : x < r.1 <;> by_cases h2 : x < r.2 <;> simp [h1, h2] <;> omega

theorem ea_le (l : List (Nat × Nat)) (x : Nat) : endsAbove l x ≤ 2 * l.length := by
  induction l with
  | nil => simp [endsAbove]
  | cons r l ih =>
    rw [ea_cons, List.length_cons]
    split <;> split <;> omega

theorem ea_mono (l : List (Nat × Nat)) {x y : Nat} (h : x ≤ y) : endsAbove l y ≤ endsAbove l x := by
  induction l with
  | nil => simp [endsAbove]
  | cons r l ih =>
    rw [ea_cons, ea_cons]
    have a : (if y < r.1 then 1 else 0) ≤ (if x < r.1 then 1 else 0) := by split <;> split <;> omega
    have b : (if y < r.2 then 1 else 0) ≤ (if x < r.2 then 1 else 0) := by split <;> split <;> omega
    omega

/-- The end that a list tells is above, or there is none. -/
theorem ea_look : ∀ {l : List (Nat × Nat)}, NeatL l → ∀ x, x < (lookL l x).2 → (lookL l x).2 < topN → endsAbove l (lookL l x).2 + 1 ≤ endsAbove l x
  | [], _, x, _, h => by simp [lookL] at h
  | r :: l, hn, x, hx, ht => by
    obtain ⟨h1, h2, h3⟩ := neat_cons.1 hn
    unfold lookL at hx ht ⊢
    by_cases hle : r.2 ≤ x
    · rw [if_pos hle] at hx ht ⊢
      have := ea_look h3 x hx ht
      rw [ea_cons, ea_cons]
      rw [if_neg (by omega), if_neg (by omega), if_neg (by omega), if_neg (by omega)]
      omega
    · rw [if_neg hle] at hx ht ⊢
      by_cases hlt : x < r.1
      · rw [if_pos hlt] at hx ht ⊢
        have := ea_mono l (show x ≤ r.1 by omega)
        rw [ea_cons, ea_cons]
        show (if r.1 < r.1 then 1 else 0) + (if r.1 < r.2 then 1 else 0) + endsAbove l r.1 + 1 ≤ _
        rw [if_neg (by omega), if_pos h1, if_pos hlt, if_pos (by omega)]
        omega
      · rw [if_neg hlt] at hx ht ⊢
        have := ea_mono l (show x ≤ r.2 by omega)
        rw [ea_cons, ea_cons]
        show (if r.2 < r.1 then 1 else 0) + (if r.2 < r.2 then 1 else 0) + endsAbove l r.2 + 1 ≤ _
        rw [if_neg (by omega), if_neg (by omega), if_neg hlt, if_pos (by omega)]
        omega

/-! A sweep over the ends: the neat list of the numbers of which W is true. -/

/-- Behind the turn at x: the ranges told so far, and whether one is open. -/
structure Swept (W : Nat → Bool) (out : List (Nat × Nat)) (op : Bool) (x : Nat) : Prop where
  shut : op = false → NeatL out ∧ (∀ r ∈ out, r.2 ≤ x) ∧ ∀ n, inB out n = (decide (n < x) && W n)
  wide : op = true → ∃ o f, out = o ++ [(f, 0)] ∧ NeatL o ∧ (∀ r ∈ o, r.2 < f) ∧ f ≤ x ∧ (∀ n, f ≤ n → n < x → W n = true) ∧ ∀ n, inB o n = (decide (n < f) && W n)

/-- Ahead of the turn at x. -/
structure Sweep (W : Nat → Bool) (out : List (Nat × Nat)) (op : Bool) (x : Nat) : Prop where
  shut : op = false → NeatL out ∧ (∀ r ∈ out, r.2 < x) ∧ ∀ n, inB out n = (decide (n < x) && W n)
  wide : op = true → ∃ o f, out = o ++ [(f, 0)] ∧ NeatL o ∧ (∀ r ∈ o, r.2 < f) ∧ f < x ∧ (∀ n, f ≤ n → n < x → W n = true) ∧ ∀ n, inB o n = (decide (n < f) && W n)

theorem sweep_start (W : Nat → Bool) : Sweep W [] false 0 :=
  ⟨fun _ => ⟨neat_nil, fun _ h => (by cases h), fun n => by simp⟩, fun h => by cases h⟩

theorem Sweep.same {W : Nat → Bool} {out : List (Nat × Nat)} {op : Bool} {x : Nat} (h : Sweep W out op x) : Swept W out op x := by
  refine ⟨fun e => ?_, fun e => ?_⟩
  · obtain ⟨a, b, c⟩ := h.shut e
    exact ⟨a, fun r hr => Nat.le_of_lt (b r hr), c⟩
  · obtain ⟨o, f, a, b, c, d, g, k⟩ := h.wide e
    exact ⟨o, f, a, b, c, Nat.le_of_lt d, g, k⟩

theorem Sweep.opens {W : Nat → Bool} {out : List (Nat × Nat)} {x : Nat} (h : Sweep W out false x) : Swept W (out ++ [(x, 0)]) true x := by
  obtain ⟨a, b, c⟩ := h.shut rfl
  exact ⟨fun e => (by cases e), fun _ => ⟨out, x, rfl, a, b, Nat.le_refl _, fun n h1 h2 => by omega, c⟩⟩

theorem Sweep.shuts {W : Nat → Bool} {out : List (Nat × Nat)} {x : Nat} (h : Sweep W out true x) : ∃ o f, out = o ++ [(f, 0)] ∧ Swept W (o ++ [(f, x)]) false x := by
  obtain ⟨o, f, e, a, b, d, g, k⟩ := h.wide rfl
  refine ⟨o, f, e, fun _ => ⟨neat_snoc.2 ⟨a, d, b⟩, fun r hr => ?_, fun n => ?_⟩, fun h => by cases h⟩
  · rcases List.mem_append.1 hr with h1 | h1
    · have := b r h1
      omega
    · simp at h1
      subst h1
      exact Nat.le_refl _
  · rw [inB_append, inB_one, k]
    by_cases h1 : n < f
    · have e1 : decide (n < f) = true := decide_eq_true h1
      have e2 : decide (f ≤ n) = false := decide_eq_false (by omega)
      have e3 : decide (n < x) = true := decide_eq_true (by omega)
      simp [e1, e2, e3]
    · have e1 : decide (n < f) = false := decide_eq_false h1
      have e2 : decide (f ≤ n) = true := decide_eq_true (by omega)
      by_cases h2 : n < x
      · simp [e1, e2, h2, g n (by omega) h2]
      · simp [e1, h2]

/-- On to the next end: up to it all is as at x. -/
theorem Swept.on {W : Nat → Bool} {out : List (Nat × Nat)} {x y : Nat} (h : Swept W out (W x) x) (hxy : x < y) (hc : ∀ n, x ≤ n → n < y → W n = W x) : Sweep W out (W x) y := by
  refine ⟨fun e => ?_, fun e => ?_⟩
  · obtain ⟨a, b, c⟩ := h.shut e
    refine ⟨a, fun r hr => by have := b r hr; omega, fun n => ?_⟩
    rw [c]
    by_cases h1 : n < x
    · rw [decide_eq_true h1, decide_eq_true (show n < y by omega)]
    · by_cases h2 : n < y
      · rw [decide_eq_false h1, decide_eq_true h2, hc n (by omega) h2, e]
        rfl
      · rw [decide_eq_false h1, decide_eq_false h2]
  · obtain ⟨o, f, a, b, c, d, g, k⟩ := h.wide e
    refine ⟨o, f, a, b, c, by omega, fun n n1 n2 => ?_, k⟩
    by_cases h1 : n < x
    · exact g n n1 h1
    · rw [hc n (by omega) n2, e]

theorem Swept.done {W : Nat → Bool} {out : List (Nat × Nat)} {x : Nat} (h : Swept W out false x) (hw : ∀ n, x ≤ n → W n = false) : NeatL out ∧ ∀ n, inB out n = W n := by
  obtain ⟨a, _, c⟩ := h.shut rfl
  refine ⟨a, fun n => ?_⟩
  rw [c]
  by_cases h1 : n < x
  · simp [h1]
  · rw [hw n (by omega)]
    simp

/-! A sorted list merged. -/

/-- The list with a range more. -/
def joinR (acc : List (Nat × Nat)) (r : Nat × Nat) : List (Nat × Nat) :=
  match acc.getLast? with
  | none => acc ++ [r]
  | some z => if z.2 < r.1 then acc ++ [r] else acc.dropLast ++ [(z.1, max z.2 r.2)]

theorem joinR_new {acc : List (Nat × Nat)} {r : Nat × Nat} (h : ∀ z i, acc = i ++ [z] → z.2 < r.1) : joinR acc r = acc ++ [r] := by
  rcases List.eq_nil_or_concat acc with rfl | ⟨i, z, rfl⟩
  · rfl
  · have := h z i (by simp)
    simp [joinR, this]

theorem joinR_old {i : List (Nat × Nat)} {z r : Nat × Nat} (h : ¬ z.2 < r.1) : joinR (i ++ [z]) r = i ++ [(z.1, max z.2 r.2)] := by
  simp [joinR, h]

theorem joinR_neat {acc : List (Nat × Nat)} {r : Nat × Nat} (hn : NeatL acc) (hr : r.1 < r.2) (hs : ∀ s ∈ acc, s.1 ≤ r.1) :
    NeatL (joinR acc r) ∧ (∀ n, inB (joinR acc r) n = (inB acc n || inB [r] n)) ∧ ∀ s ∈ joinR acc r, s.1 ≤ r.1 := by
  rcases List.eq_nil_or_concat acc with rfl | ⟨i, z, rfl⟩
  · have e : joinR [] r = [r] := rfl
    rw [e]
    exact ⟨neat_cons.2 ⟨hr, fun _ h => (by cases h), neat_nil⟩, fun n => by simp, fun s hs => by simp at hs; subst hs; exact Nat.le_refl _⟩
  · rw [List.concat_eq_append] at *
    by_cases h : z.2 < r.1
    · have e : joinR (i ++ [z]) r = (i ++ [z]) ++ [r] := by simp [joinR, h]
      rw [e]
      refine ⟨neat_snoc.2 ⟨hn, hr, fun s h1 => ?_⟩, fun n => inB_append _ _ _, fun s h1 => ?_⟩
      · have := neat_last hn rfl s h1
        omega
      · rcases List.mem_append.1 h1 with h2 | h2
        · exact hs s h2
        · simp at h2
          subst h2
          exact Nat.le_refl _
    · rw [joinR_old h]
      obtain ⟨a, b, c⟩ := neat_snoc.1 hn
      have hz := hs z (by simp)
      refine ⟨neat_snoc.2 ⟨a, by simp; omega, c⟩, fun n => ?_, fun s h1 => ?_⟩
      · rw [inB_append, inB_append, inB_one, inB_one, inB_one, Bool.or_assoc]
        congr 1
        rw [Bool.eq_iff_iff]
        simp
        omega
      · rcases List.mem_append.1 h1 with h2 | h2
        · exact hs s (by simp [h2])
        · simp at h2
          subst h2
          exact hz

def mergeL (l : List (Nat × Nat)) : List (Nat × Nat) := l.foldl joinR []

theorem merge_snoc (l : List (Nat × Nat)) (r : Nat × Nat) : mergeL (l ++ [r]) = joinR (mergeL l) r := by
  simp [mergeL]

theorem joinR_length (acc : List (Nat × Nat)) (r : Nat × Nat) : (joinR acc r).length ≤ acc.length + 1 := by
  rcases List.eq_nil_or_concat acc with rfl | ⟨i, z, rfl⟩
  · simp [joinR]
  · rw [List.concat_eq_append]
    by_cases h : z.2 < r.1
    · simp [joinR, h]
    · rw [joinR_old h]
      simp

/-- Of a list that rises, whose ranges have a number each. -/
theorem merge_neat : ∀ (k : Nat) (l : List (Nat × Nat)), l.length = k → (∀ r ∈ l, r.1 < r.2) → l.Pairwise (fun r s => r.1 ≤ s.1) →
    NeatL (mergeL l) ∧ (∀ n, inB (mergeL l) n = inB l n) ∧ (∀ r, (∀ s ∈ l, s.1 ≤ r) → ∀ s ∈ mergeL l, s.1 ≤ r) ∧ (mergeL l).length ≤ l.length
  | 0, l, hk, _, _ => by
    obtain rfl := List.eq_nil_of_length_eq_zero hk
    exact ⟨neat_nil, fun _ => rfl, fun _ _ s h => (by cases h), Nat.le_refl _⟩
  | k + 1, l, hk, h1, h2 => by
    rcases List.eq_nil_or_concat l with rfl | ⟨i, z, rfl⟩
    · cases hk
    · rw [List.concat_eq_append] at *
      rw [List.length_append] at hk
      rw [List.pairwise_append] at h2
      obtain ⟨a, b, c, d⟩ := merge_neat k i (by simpa using hk) (fun r hr => h1 r (by simp [hr])) h2.1
      have hz : ∀ s ∈ mergeL i, s.1 ≤ z.1 := c z.1 fun s hs => h2.2.2 s hs z (by simp)
      obtain ⟨e, f, g⟩ := joinR_neat a (h1 z (by simp)) hz
      rw [merge_snoc]
      refine ⟨e, fun n => by rw [f, b, inB_append], fun r hr s hs => Nat.le_trans (g s hs) (hr z (by simp)), ?_⟩
      have := joinR_length (mergeL i) z
      simp
      omega

/-! How many numbers there are. -/

def totalL (l : List (Nat × Nat)) : Nat := (l.map fun r => r.2 - r.1).sum

def cntB (p : Nat → Bool) : Nat → Nat
  | 0 => 0
  | n + 1 => cntB p n + if p n then 1 else 0

theorem cntB_le (p : Nat → Bool) : ∀ n, cntB p n ≤ n
  | 0 => Nat.le_refl _
  | n + 1 => by
    have := cntB_le p n
    unfold cntB
    split <;> omega

theorem cntB_congr {p q : Nat → Bool} (h : ∀ n, p n = q n) : ∀ n, cntB p n = cntB q n
  | 0 => rfl
  | n + 1 => by
    unfold cntB
    rw [cntB_congr h n, h n]

theorem cntB_or {p q : Nat → Bool} (h : ∀ n, (p n && q n) = false) : ∀ n, cntB (fun n => p n || q n) n = cntB p n + cntB q n
  | 0 => rfl
  | n + 1 => by
    have hn := h n
    show cntB _ n + _ = _
    rw [cntB_or h n]
    show _ = cntB p n + _ + (cntB q n + _)
    cases hp : p n <;> cases hq : q n <;> simp [hp, hq] at hn ⊢ <;> omega

theorem cntB_none : ∀ n, cntB (fun _ => false) n = 0
  | 0 => rfl
  | n + 1 => by
    unfold cntB
    rw [cntB_none n]
    rfl

theorem cntB_range (a b : Nat) (h : a ≤ b) : ∀ n, cntB (fun n => decide (a ≤ n) && decide (n < b)) n = min n b - min n a
  | 0 => by simp [cntB]
  | n + 1 => by
    unfold cntB
    rw [cntB_range a b h n]
    by_cases h1 : a ≤ n <;> by_cases h2 : n < b <;> simp [h1, h2] <;> omega

theorem total_cnt : ∀ {l : List (Nat × Nat)}, NeatL l → ∀ N, (∀ r ∈ l, r.2 ≤ N) → totalL l = cntB (inB l) N
  | [], _, N, _ => (cntB_none N).symm
  | r :: l, h, N, hN => by
    obtain ⟨h1, h2, h3⟩ := neat_cons.1 h
    have e := total_cnt h3 N fun s hs => hN s (by simp [hs])
    have hr := hN r (by simp)
    rw [cntB_congr (inB_cons r l) N, cntB_or (p := fun n => decide (r.1 ≤ n) && decide (n < r.2)) (q := inB l) (fun n => ?_) N, cntB_range _ _ (by omega) N, ← e]
    · show r.2 - r.1 + totalL l = _
      omega
    · cases hc : inB l n with
      | false => simp
      | true =>
        have := inB_tail h hc
        simp
        omega

theorem total_le {l : List (Nat × Nat)} (h : NeatL l) (hf : FitL l) : totalL l ≤ topN := by
  rw [total_cnt h topN fun r hr => (hf r hr).2]
  exact cntB_le _ _

/-- Two sets apart, and their sum. -/
theorem total_add {a b c : List (Nat × Nat)} (ha : NeatL a) (hb : NeatL b) (hc : NeatL c) (fa : FitL a) (fb : FitL b) (fc : FitL c)
    (hx : ∀ n, (inB a n && inB b n) = false) (hs : ∀ n, inB c n = (inB a n || inB b n)) : totalL a + totalL b = totalL c := by
  rw [total_cnt ha topN fun r hr => (fa r hr).2, total_cnt hb topN fun r hr => (fb r hr).2, total_cnt hc topN fun r hr => (fc r hr).2, cntB_congr hs, cntB_or hx]

theorem total_snoc (l : List (Nat × Nat)) (r : Nat × Nat) : totalL (l ++ [r]) = totalL l + (r.2 - r.1) := by
  simp [totalL]

theorem total_take (l : List (Nat × Nat)) (k : Nat) : totalL (l.take k) ≤ totalL l := by
  conv => rhs; rw [← List.take_append_drop k l]
  unfold totalL
  rw [List.map_append, List.sum_append]
  omega

end Go.Proofs.Ytaemfoelhijbjaa
