/-
  Frames: each has a byte; all frames of bytes. Plain mathematics.
-/
import Derived.Test.YtkkojhkglcigmaaDoorMFm
namespace Go.Proofs.YtkkojhkglcigmaaDoor
set_option linter.unusedVariables false

theorem data_len {t : Bool} {k : Nat} {l r x : List UInt8} (h : data_ t k l = some (x, r)) : r.length ≤ l.length := by
  unfold data_ at h
  rcases hn : len_ t k l with _ | ⟨n, l'⟩
  · rw [hn] at h; cases h
  · rw [hn] at h
    simp only at h
    split at h
    · simp only [Option.some.injEq, Prod.mk.injEq] at h
      obtain ⟨rfl, rfl⟩ := h
      have := len_le hn
      rw [List.length_drop]
      omega
    · cases h

theorem cid_len {l r : List UInt8} {x : List UInt8 × List UInt8} (h : cid_ l = some (x, r)) : r.length ≤ l.length := by
  cases l with
  | nil => cases h
  | cons y t =>
    unfold cid_ at h
    simp only at h
    split at h
    · split at h
      · simp only [Option.some.injEq, Prod.mk.injEq] at h
        obtain ⟨rfl, rfl⟩ := h
        simp only [List.length_drop, List.length_cons]
        omega
      · cases h
    · cases h

theorem sF_len {f g : PF} {l r : List UInt8} (h : sF f l = some (g, r)) : r.length ≤ l.length ∧ MayF g := by
  unfold sF at h
  split at h
  · rename_i hm
    simp only [Option.some.injEq, Prod.mk.injEq] at h
    obtain ⟨rfl, rfl⟩ := h
    exact ⟨Nat.le_refl _, hm⟩
  · cases h

theorem s9_len {c : Bool} {f g : PF} {l r : List UInt8} (h : s9 c f l = some (g, r)) : r.length ≤ l.length ∧ MayF g := by
  unfold s9 at h
  split at h
  · rcases hn : cid_ l with _ | ⟨⟨a, b⟩, l'⟩
    · rw [hn] at h; cases h
    · rw [hn] at h
      simp only at h
      have h1 := cid_len hn
      have h2 := sF_len h
      exact ⟨by omega, h2.2⟩
  · exact sF_len h

theorem s8_len {t d c : Bool} {f g : PF} {l r : List UInt8} (h : s8 t d c f l = some (g, r)) : r.length ≤ l.length ∧ MayF g := by
  unfold s8 at h
  split at h
  · rcases hn : data_ t f.kind l with _ | ⟨x, l'⟩
    · rw [hn] at h; cases h
    · rw [hn] at h
      simp only at h
      have h1 := data_len hn
      have h2 := s9_len h
      exact ⟨by omega, h2.2⟩
  · exact s9_len h

theorem s5_len {e t d c : Bool} {f g : PF} {l r : List UInt8} (h : s5 e t d c f l = some (g, r)) : r.length ≤ l.length ∧ MayF g := by
  unfold s5 at h
  rcases h1 : numIf_ e l with _ | ⟨n1, l1⟩
  · rw [h1] at h; cases h
  rw [h1] at h
  simp only at h
  unfold s6 at h
  rcases h2 : numIf_ e l1 with _ | ⟨n2, l2⟩
  · rw [h2] at h; cases h
  rw [h2] at h
  simp only at h
  unfold s7 at h
  rcases h3 : numIf_ e l2 with _ | ⟨n3, l3⟩
  · rw [h3] at h; cases h
  rw [h3] at h
  simp only at h
  have k1 := numIf_le h1
  have k2 := numIf_le h2
  have k3 := numIf_le h3
  have k := s8_len h
  exact ⟨by omega, k.2⟩

theorem s4_len {a e t d c : Bool} {f g : PF} {l r : List UInt8} (h : s4 a e t d c f l = some (g, r)) : r.length ≤ l.length ∧ MayF g := by
  unfold s4 at h
  split at h
  · rcases hn : acks_ l with _ | ⟨⟨x, y⟩, l'⟩
    · rw [hn] at h; cases h
    · rw [hn] at h
      simp only at h
      have h1 := acks_le hn
      have h2 := s5_len h
      exact ⟨by omega, h2.2⟩
  · exact s5_len h

theorem s0_len {i j o x a e t d c : Bool} {f g : PF} {l r : List UInt8} (h : s0 i j o x a e t d c f l = some (g, r)) : r.length ≤ l.length ∧ MayF g := by
  unfold s0 at h
  rcases h1 : numIf_ i l with _ | ⟨n1, l1⟩
  · rw [h1] at h; cases h
  rw [h1] at h
  simp only at h
  unfold s1 at h
  rcases h2 : numIf_ j l1 with _ | ⟨n2, l2⟩
  · rw [h2] at h; cases h
  rw [h2] at h
  simp only at h
  unfold s2 at h
  rcases h3 : numIf_ o l2 with _ | ⟨n3, l3⟩
  · rw [h3] at h; cases h
  rw [h3] at h
  simp only at h
  unfold s3 at h
  rcases h4 : numIf_ x l3 with _ | ⟨n4, l4⟩
  · rw [h4] at h; cases h
  rw [h4] at h
  simp only at h
  have k1 := numIf_le h1
  have k2 := numIf_le h2
  have k3 := numIf_le h3
  have k4 := numIf_le h4
  have k := s4_len h
  exact ⟨by omega, k.2⟩

theorem sP_len {p : Nat} {f g : PF} {l r : List UInt8} (h : sP p f l = some (g, r)) : r.length ≤ l.length ∧ MayF g := by
  unfold sP at h
  split at h
  · unfold sM at h
    split at h
    · have k := s0_len h
      rw [List.length_drop] at k
      exact ⟨by omega, k.2⟩
    · exact s0_len h
  · cases h

/-- What is read has a byte, and may be. -/
theorem frame_len {l r : List UInt8} {g : PF} (h : frame_ l = some (g, r)) : r.length < l.length ∧ MayF g := by
  cases l with
  | nil => cases h
  | cons x t =>
    rw [frame_cons] at h
    split at h
    · have k := sP_len h
      simp only [List.length_cons]
      exact ⟨by omega, k.2⟩
    · have k := sP_len h
      simp only [List.length_cons]
      exact ⟨by omega, k.2⟩

/-- All frames of bytes. -/
noncomputable def listN : Nat → List UInt8 → Option (List PF)
  | 0, l => if l = [] then some [] else none
  | k + 1, l => if l = [] then some [] else match frame_ l with
    | none => none
    | some (f, l') => (listN k l').map (f :: ·)

noncomputable def list_ (l : List UInt8) : Option (List PF) := if l = [] then none else listN l.length l

theorem listN_nil (k : Nat) : listN k [] = some [] := by cases k <;> simp [listN]

theorem listN_fuel : ∀ (k : Nat) (l : List UInt8) (m : Nat), l.length ≤ k → l.length ≤ m → listN k l = listN m l
  | 0, l, m, hk, _ => by
    obtain rfl := List.eq_nil_of_length_eq_zero (by omega : l.length = 0)
    rw [listN_nil, listN_nil]
  | k + 1, l, 0, _, hm => by
    obtain rfl := List.eq_nil_of_length_eq_zero (by omega : l.length = 0)
    rw [listN_nil, listN_nil]
  | k + 1, l, m + 1, hk, hm => by
    unfold listN
    split
    · rfl
    · rcases hf : frame_ l with _ | ⟨f, l'⟩
      · rfl
      · have := (frame_len hf).1
        simp only
        rw [listN_fuel k l' m (by omega) (by omega)]

/-- One step. -/
theorem listN_step {l : List UInt8} (hl : l ≠ []) (k : Nat) (hk : l.length ≤ k) : listN k l = match frame_ l with
    | none => none
    | some (f, l') => (listN l'.length l').map (f :: ·) := by
  cases k with
  | zero => exact absurd (List.eq_nil_of_length_eq_zero (by omega)) hl
  | succ k =>
    conv => lhs; unfold listN
    rw [if_neg hl]
    rcases hf : frame_ l with _ | ⟨f, l'⟩
    · rfl
    · have := (frame_len hf).1
      simp only
      rw [listN_fuel k l' l'.length (by omega) (Nat.le_refl _)]

end Go.Proofs.YtkkojhkglcigmaaDoor
