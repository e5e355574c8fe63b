/-
  Frames: what is read does not hang on what stands behind; cut short there is none. Plain mathematics.
-/
import Derived.Test.YtnbeplfceflnjaaDoorFMath2
namespace Go.Proofs.YtnbeplfceflnjaaDoor
set_option linter.unusedVariables false

theorem num_more {l r : List UInt8} {n : Nat} (h : num_ l = some (n, r)) (s : List UInt8) : num_ (l ++ s) = some (n, r ++ s) := by
  unfold num_ at h ⊢
  rcases htk : tk l with _ | ⟨m, k⟩
  · rw [htk] at h; cases h
  · rw [htk] at h
    simp only [Option.some.injEq, Prod.mk.injEq] at h
    obtain ⟨rfl, rfl⟩ := h
    obtain ⟨x, t, rfl, rfl, h1, h2⟩ := tk_some htk
    have e : tk (x :: t ++ s) = some (m, cls x) := by
      rw [List.cons_append, tk_long (by rw [List.length_append]; omega), List.take_append_of_le_length (by omega), ← h2]
    rw [e]
    simp only
    rw [List.drop_append_of_le_length (by simpa using h1)]

theorem numIf_more {b : Bool} {l r : List UInt8} {n : Nat} (h : numIf_ b l = some (n, r)) (s : List UInt8) : numIf_ b (l ++ s) = some (n, r ++ s) := by
  unfold numIf_ at h ⊢
  cases b
  · simp only [Bool.false_eq_true, if_false, Option.some.injEq, Prod.mk.injEq] at h ⊢
    obtain ⟨rfl, rfl⟩ := h
    exact ⟨rfl, rfl⟩
  · simp only [if_true] at h ⊢
    exact num_more h s

theorem down_more {top : Nat} {l r : List UInt8} {x : Nat × Nat} (h : down_ top l = some (x, r)) (s : List UInt8) : down_ top (l ++ s) = some (x, r ++ s) := by
  unfold down_ at h ⊢
  rcases hn : num_ l with _ | ⟨n, t⟩
  · rw [hn] at h; cases h
  · rw [hn] at h
    rw [num_more hn s]
    simp only at h ⊢
    split at h
    · rename_i hle
      rw [if_pos hle]
      simp only [Option.some.injEq, Prod.mk.injEq] at h ⊢
      obtain ⟨rfl, rfl⟩ := h
      exact ⟨rfl, rfl⟩
    · cases h

theorem more_more : ∀ (m above : Nat) (acc : List (Nat × Nat)) (l : List UInt8) (rs : List (Nat × Nat)) (r : List UInt8), more_ m above acc l = some (rs, r) → ∀ s, more_ m above acc (l ++ s) = some (rs, r ++ s)
  | 0, above, acc, l, rs, r, h, s => by
    simp only [more_, Option.some.injEq, Prod.mk.injEq] at h ⊢
    obtain ⟨rfl, rfl⟩ := h
    exact ⟨rfl, rfl⟩
  | m + 1, above, acc, l, rs, r, h, s => by
    unfold more_ at h ⊢
    rcases hn : num_ l with _ | ⟨gap, l1⟩
    · rw [hn] at h; cases h
    · rw [hn] at h
      rw [num_more hn s]
      simp only at h ⊢
      by_cases hle : gap + 2 ≤ above
      · rw [if_pos hle] at h ⊢
        rcases hd : down_ (above - gap - 2) l1 with _ | ⟨x, l2⟩
        · rw [hd] at h; cases h
        · rw [hd] at h
          rw [down_more hd s]
          simp only at h ⊢
          exact more_more m x.1 (acc ++ [x]) l2 rs r h s
      · rw [if_neg hle] at h; cases h

theorem acks_more {l r : List UInt8} {x : List (Nat × Nat) × Nat} (h : acks_ l = some (x, r)) (s : List UInt8) : acks_ (l ++ s) = some (x, r ++ s) := by
  unfold acks_ at h ⊢
  rcases h1 : num_ l with _ | ⟨top, l1⟩
  · rw [h1] at h; cases h
  rw [h1] at h
  rw [num_more h1 s]
  simp only at h ⊢
  rcases h2 : num_ l1 with _ | ⟨delay, l2⟩
  · rw [h2] at h; cases h
  rw [h2] at h
  rw [num_more h2 s]
  simp only at h ⊢
  rcases h3 : num_ l2 with _ | ⟨more, l3⟩
  · rw [h3] at h; cases h
  rw [h3] at h
  rw [num_more h3 s]
  simp only at h ⊢
  rcases h4 : down_ top l3 with _ | ⟨r4, l4⟩
  · rw [h4] at h; cases h
  rw [h4] at h
  rw [down_more h4 s]
  simp only at h ⊢
  rcases h5 : more_ more r4.1 [r4] l4 with _ | ⟨rs, l5⟩
  · rw [h5] at h; cases h
  rw [h5] at h
  rw [more_more _ _ _ _ _ _ h5 s]
  simp only [Option.some.injEq, Prod.mk.injEq] at h ⊢
  obtain ⟨h6, rfl⟩ := h
  exact ⟨h6, rfl⟩

theorem data_more {t : Bool} {k : Nat} {l r x : List UInt8} (ht : t = true ∨ k ≠ 8) (h : data_ t k l = some (x, r)) (s : List UInt8) : data_ t k (l ++ s) = some (x, r ++ s) := by
  have key : ∀ (n : Nat) (l' : List UInt8), (if n ≤ l'.length then some (l'.take n, l'.drop n) else none : Option (List UInt8 × List UInt8)) = some (x, r) →
      (if n ≤ (l' ++ s).length then some ((l' ++ s).take n, (l' ++ s).drop n) else none) = some (x, r ++ s) := by
    intro n l' h
    split at h
    · rename_i hle
      simp only [Option.some.injEq, Prod.mk.injEq] at h
      obtain ⟨rfl, rfl⟩ := h
      rw [if_pos (by rw [List.length_append]; omega), List.take_append_of_le_length hle, List.drop_append_of_le_length hle]
    · cases h
  unfold data_ len_ at h ⊢
  cases t
  · have hk : k ≠ 8 := by rcases ht with h | h; cases h; exact h
    simp only [Bool.false_eq_true, if_false, if_neg hk] at h ⊢
    exact key _ _ h
  · simp only [if_true] at h ⊢
    rcases hn : num_ l with _ | ⟨n, l'⟩
    · rw [hn] at h; cases h
    · rw [hn] at h
      rw [num_more hn s]
      exact key _ _ h

theorem cid_more {l r : List UInt8} {x : List UInt8 × List UInt8} (h : cid_ l = some (x, r)) (s : List UInt8) : cid_ (l ++ s) = some (x, r ++ s) := by
  cases l with
  | nil => cases h
  | cons y t =>
    rw [List.cons_append]
    unfold cid_ at h ⊢
    simp only at h ⊢
    split at h
    · rename_i h1
      rw [if_pos (by rw [List.length_append]; omega), List.drop_append_of_le_length h1, List.take_append_of_le_length h1]
      split at h
      · rename_i h2
        rw [if_pos (by rw [List.length_append]; omega), List.take_append_of_le_length h2, List.drop_append_of_le_length h2]
        simp only [Option.some.injEq, Prod.mk.injEq] at h ⊢
        obtain ⟨rfl, rfl⟩ := h
        exact ⟨rfl, rfl⟩
      · cases h
    · cases h

theorem sF_more {f g : PF} {l r : List UInt8} (h : sF f l = some (g, r)) (s : List UInt8) : sF f (l ++ s) = some (g, r ++ s) := by
  unfold sF at h ⊢
  split at h
  · rename_i hm
    rw [if_pos hm]
    simp only [Option.some.injEq, Prod.mk.injEq] at h ⊢
    obtain ⟨rfl, rfl⟩ := h
    exact ⟨rfl, rfl⟩
  · cases h

theorem s9_more {c : Bool} {f g : PF} {l r : List UInt8} (h : s9 c f l = some (g, r)) (s : List UInt8) : s9 c f (l ++ s) = some (g, r ++ s) := by
  unfold s9 at h ⊢
  split at h
  · rename_i hc
    rw [if_pos hc]
    rcases hn : cid_ l with _ | ⟨⟨a, b⟩, l'⟩
    · rw [hn] at h; cases h
    · rw [hn] at h
      rw [cid_more hn s]
      simp only at h ⊢
      exact sF_more h s
  · rename_i hc
    rw [if_neg hc]
    exact sF_more h s

theorem s8_more {t d c : Bool} {f g : PF} {l r : List UInt8} (ht : t = true ∨ f.kind ≠ 8) (h : s8 t d c f l = some (g, r)) (s : List UInt8) : s8 t d c f (l ++ s) = some (g, r ++ s) := by
  unfold s8 at h ⊢
  split at h
  · rename_i hc
    rw [if_pos hc]
    rcases hn : data_ t f.kind l with _ | ⟨x, l'⟩
    · rw [hn] at h; cases h
    · rw [hn] at h
      rw [data_more ht hn s]
      simp only at h ⊢
      exact s9_more h s
  · rename_i hc
    rw [if_neg hc]
    exact s9_more h s

theorem s5_more {e t d c : Bool} {f g : PF} {l r : List UInt8} (ht : t = true ∨ f.kind ≠ 8) (h : s5 e t d c f l = some (g, r)) (s : List UInt8) : s5 e t d c f (l ++ s) = some (g, r ++ s) := by
  unfold s5 at h ⊢
  rcases h1 : numIf_ e l with _ | ⟨n1, l1⟩
  · rw [h1] at h; cases h
  rw [h1] at h
  rw [numIf_more h1 s]
  simp only at h ⊢
  unfold s6 at h ⊢
  rcases h2 : numIf_ e l1 with _ | ⟨n2, l2⟩
  · rw [h2] at h; cases h
  rw [h2] at h
  rw [numIf_more h2 s]
  simp only at h ⊢
  unfold s7 at h ⊢
  rcases h3 : numIf_ e l2 with _ | ⟨n3, l3⟩
  · rw [h3] at h; cases h
  rw [h3] at h
  rw [numIf_more h3 s]
  simp only at h ⊢
  exact s8_more (by exact ht) h s

theorem s4_more {a e t d c : Bool} {f g : PF} {l r : List UInt8} (ht : t = true ∨ f.kind ≠ 8) (h : s4 a e t d c f l = some (g, r)) (s : List UInt8) : s4 a e t d c f (l ++ s) = some (g, r ++ s) := by
  unfold s4 at h ⊢
  split at h
  · rename_i hc
    rw [if_pos hc]
    rcases hn : acks_ l with _ | ⟨⟨x, y⟩, l'⟩
    · rw [hn] at h; cases h
    · rw [hn] at h
      rw [acks_more hn s]
      simp only at h ⊢
      exact s5_more (by exact ht) h s
  · rename_i hc
    rw [if_neg hc]
    exact s5_more (by exact ht) h s

theorem s0_more {i j o x a e t d c : Bool} {f g : PF} {l r : List UInt8} (ht : t = true ∨ f.kind ≠ 8) (h : s0 i j o x a e t d c f l = some (g, r)) (s : List UInt8) : s0 i j o x a e t d c f (l ++ s) = some (g, r ++ s) := by
  unfold s0 at h ⊢
  rcases h1 : numIf_ i l with _ | ⟨n1, l1⟩
  · rw [h1] at h; cases h
  rw [h1] at h
  rw [numIf_more h1 s]
  simp only at h ⊢
  unfold s1 at h ⊢
  rcases h2 : numIf_ j l1 with _ | ⟨n2, l2⟩
  · rw [h2] at h; cases h
  rw [h2] at h
  rw [numIf_more h2 s]
  simp only at h ⊢
  unfold s2 at h ⊢
  rcases h3 : numIf_ o l2 with _ | ⟨n3, l3⟩
  · rw [h3] at h; cases h
  rw [h3] at h
  rw [numIf_more h3 s]
  simp only at h ⊢
  unfold s3 at h ⊢
  rcases h4 : numIf_ x l3 with _ | ⟨n4, l4⟩
  · rw [h4] at h; cases h
  rw [h4] at h
  rw [numIf_more h4 s]
  simp only at h ⊢
  exact s4_more (by exact ht) h s

theorem sP_more {p : Nat} {f g : PF} {l r : List UInt8} (hp : bt p 32 = false) (ht : bt p 512 = true ∨ f.kind ≠ 8) (h : sP p f l = some (g, r)) (s : List UInt8) : sP p f (l ++ s) = some (g, r ++ s) := by
  unfold sP at h ⊢
  split at h
  · rename_i hc
    rw [if_pos hc]
    unfold sM at h ⊢
    rw [hp] at h ⊢
    simp only [Bool.false_eq_true, if_false] at h ⊢
    exact s0_more ht h s
  · cases h

/-- A kind on the wire whose frames end of themselves. -/
theorem frame_more {x : UInt8} {t r : List UInt8} {g : PF} (hx : (x.toNat / 8 = 1 ∧ bt (strN x.toNat) 512 = true) ∨ (¬ x.toNat / 8 = 1 ∧ bt (partsN x.toNat) 32 = false)) (h : frame_ (x :: t) = some (g, r)) (s : List UInt8) : frame_ (x :: (t ++ s)) = some (g, r ++ s) := by
  rw [frame_cons] at h ⊢
  rcases hx with ⟨h1, h2⟩ | ⟨h1, h2⟩
  · rw [if_pos h1] at h ⊢
    exact sP_more (by
      have h8 : ∀ k : Nat, k < 16 → k / 8 = 1 → bt (strN k) 32 = false := by decide +kernel
      exact h8 _ (by omega) h1) (.inl h2) h s
  · rw [if_neg h1] at h ⊢
    exact sP_more h2 (.inr (by show x.toNat ≠ 8; omega)) h s

theorem wire_first {f : PF} (h : MayF f) (h0 : f.kind ≠ 0) : wireN f < 64 ∧ ((wireN f / 8 = 1 ∧ bt (strN (wireN f)) 512 = true) ∨ (¬ wireN f / 8 = 1 ∧ bt (partsN (wireN f)) 32 = false)) := by
  have h31 := kind_small h
  have hcl := wire_class f.kind h31 h.1 h0
  by_cases h8 : f.kind = 8
  · have e : wireN f = 10 ∨ wireN f = 11 ∨ wireN f = 14 ∨ wireN f = 15 := by
      unfold wireN
      rw [if_pos h8]
      split <;> split <;> omega
    have hd : ∀ k : Nat, k < 16 → (k = 10 ∨ k = 11 ∨ k = 14 ∨ k = 15) → k / 8 = 1 ∧ bt (strN k) 512 = true := by decide +kernel
    exact ⟨by omega, .inl (hd _ (by omega) e)⟩
  · have e : wireN f = f.kind := by unfold wireN; rw [if_neg h8]
    rw [e]
    exact ⟨by omega, .inr ⟨fun h' => h8 (hcl.2.2.2.2.2.2.2.1 (by omega) (by omega)), hcl.1⟩⟩

/-- Cut short there is none. -/
theorem frame_cut {f : PF} (h : MayF f) (h0 : f.kind ≠ 0) (ht : f.token.length = 16) (hal : f.acks.length ≤ 65536) (c : Nat) (hc : c < (bytesF f).length) : frame_ ((bytesF f).take c) = none := by
  obtain ⟨w1, w2⟩ := wire_first h h0
  have hb : bytesF f = UInt8.ofNat (wireN f) :: restF f [] := by
    have := bytesF_form h h0 []
    rw [List.append_nil, enc_byte _ w1] at this
    exact this
  have hback := frame_back h h0 ht hal []
  rw [List.append_nil] at hback
  cases c with
  | zero => rfl
  | succ c =>
    rw [hb] at hback hc ⊢
    rw [List.take_succ_cons]
    rcases hq : frame_ (UInt8.ofNat (wireN f) :: (restF f []).take c) with _ | ⟨g, r⟩
    · rfl
    · have hm := frame_more (by rw [UInt8.toNat_ofNat', Nat.mod_eq_of_lt (by omega)]; exact w2) hq ((restF f []).drop c)
      rw [List.take_append_drop, hback] at hm
      simp only [Option.some.injEq, Prod.mk.injEq] at hm
      have hl := congrArg List.length hm.2
      rw [List.length_append, List.length_drop] at hl
      simp only [List.length_cons, List.length_nil] at hc hl
      omega

end Go.Proofs.YtnbeplfceflnjaaDoor
