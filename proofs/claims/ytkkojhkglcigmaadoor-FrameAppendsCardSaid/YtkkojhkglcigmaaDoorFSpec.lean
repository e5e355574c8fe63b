/-
  The walk through the reader's frame: made by tools/gen_frame.py.
-/
import Derived.Test.YtkkojhkglcigmaaDoorRowSet
namespace Go.Proofs.YtkkojhkglcigmaaDoor
open Go.RowKit
set_option linter.unusedVariables false

/-- Data. -/
def data_ (t : Bool) (kind : Nat) (l : List UInt8) : Option (List UInt8 × List UInt8) :=
  match len_ t kind l with
  | none => none
  | some (n, l') => if n ≤ l'.length then some (l'.take n, l'.drop n) else none

/-- Cid, and Token. -/
def cid_ (l : List UInt8) : Option ((List UInt8 × List UInt8) × List UInt8) :=
  match l with
  | [] => none
  | x :: t => if x.toNat ≤ t.length then (if 16 ≤ (t.drop x.toNat).length then some ((t.take x.toNat, (t.drop x.toNat).take 16), (t.drop x.toNat).drop 16) else none) else none

/-- The end: a frame that may be. -/
noncomputable def sF (f : PF) (l : List UInt8) : Option (PF × List UInt8) := @ite _ (MayF f) (Classical.propDecidable _) (some (f, l)) none

noncomputable def s9 (c : Bool) (f : PF) (l : List UInt8) : Option (PF × List UInt8) :=
  if c then (match cid_ l with
    | none => none
    | some ((cid, tok), l') => sF { f with cid := cid, token := tok } l') else sF f l

noncomputable def s8 (t d c : Bool) (f : PF) (l : List UInt8) : Option (PF × List UInt8) :=
  if d then (match data_ t f.kind l with
    | none => none
    | some (x, l') => s9 c { f with data := x } l') else s9 c f l

noncomputable def s7 (e t d c : Bool) (f : PF) (l : List UInt8) : Option (PF × List UInt8) :=
  match numIf_ e l with
  | none => none
  | some (n, l') => s8 t d c { f with e2 := n } l'

noncomputable def s6 (e t d c : Bool) (f : PF) (l : List UInt8) : Option (PF × List UInt8) :=
  match numIf_ e l with
  | none => none
  | some (n, l') => s7 e t d c { f with e1 := n } l'

noncomputable def s5 (e t d c : Bool) (f : PF) (l : List UInt8) : Option (PF × List UInt8) :=
  match numIf_ e l with
  | none => none
  | some (n, l') => s6 e t d c { f with e0 := n } l'

noncomputable def s4 (a e t d c : Bool) (f : PF) (l : List UInt8) : Option (PF × List UInt8) :=
  if a then (match acks_ l with
    | none => none
    | some ((r, n), l') => s5 e t d c { f with acks := r, delay := n } l') else s5 e t d c f l

noncomputable def s3 (x a e t d c : Bool) (f : PF) (l : List UInt8) : Option (PF × List UInt8) :=
  match numIf_ x l with
  | none => none
  | some (n, l') => s4 a e t d c { f with max := n } l'

noncomputable def s2 (o x a e t d c : Bool) (f : PF) (l : List UInt8) : Option (PF × List UInt8) :=
  match numIf_ o l with
  | none => none
  | some (n, l') => s3 x a e t d c { f with code := n } l'

noncomputable def s1 (j o x a e t d c : Bool) (f : PF) (l : List UInt8) : Option (PF × List UInt8) :=
  match numIf_ j l with
  | none => none
  | some (n, l') => s2 o x a e t d c { f with off := n } l'

noncomputable def s0 (i j o x a e t d c : Bool) (f : PF) (l : List UInt8) : Option (PF × List UInt8) :=
  match numIf_ i l with
  | none => none
  | some (n, l') => s1 j o x a e t d c { f with id := n } l'

noncomputable def sM (m i j o x a e t d c : Bool) (f : PF) (l : List UInt8) : Option (PF × List UInt8) :=
  if m then s0 i j o x a e t d c { f with n := 1 + zerosN 65535 l } (l.drop (zerosN 65535 l)) else s0 i j o x a e t d c f l

noncomputable def sP (p : Nat) (f : PF) (l : List UInt8) : Option (PF × List UInt8) :=
  if bt p 1 then sM (bt p 32) (bt p 2) (bt p 4) (bt p 8) (bt p 16) (bt p 128) (bt p 256) (bt p 512) (bt p 1024) (bt p 2048) f l else none

/-- The frame with whose bytes l begins. -/
noncomputable def frame_ (l : List UInt8) : Option (PF × List UInt8) :=
  match l with
  | [] => none
  | x :: t => if x.toNat / 8 = 1 then sP (strN x.toNat) { zP x.toNat with kind := 8, fin := decide (x.toNat % 2 = 1) } t else sP (partsN x.toNat) (zP x.toNat) t

/-- What the reader's frame answers. -/
def FrameGave (w : World) (B rb : Nat) (r : Option (PF × List UInt8)) (e : Ending) (w' : World) : Prop :=
  match r with
  | none => RdWrong w rb e w'
  | some (f, l) => ∃ a, e = .returned (.agg (rowF f a).toArray) ∧ FrAt w' w'.heap.size f a ∧ Fresh w.heap.size a.dA ∧ Fresh w.heap.size a.cA ∧ Fresh w.heap.size a.aA ∧ Rd w' B rb l ∧ w.grownBy w' (some rb)

theorem numIf_le {b : Bool} {l : List UInt8} {n : Nat} {t : List UInt8} (h : numIf_ b l = some (n, t)) : t.length ≤ l.length ∧ n ≤ 4611686018427387903 := by
  unfold numIf_ at h
  cases b
  · simp at h
    obtain ⟨rfl, rfl⟩ := h
    exact ⟨Nat.le_refl _, by omega⟩
  · have := num_le (by simpa using h)
    exact ⟨by omega, this.1⟩

def smallR (l : List (Nat × Nat)) : Prop := ∀ x ∈ l, x.1 < big ∧ x.2 < big

theorem more_le : ∀ (m above : Nat) (acc : List (Nat × Nat)) (l : List UInt8) (rs : List (Nat × Nat)) (l' : List UInt8), more_ m above acc l = some (rs, l') → above ≤ 4611686018427387903 → smallR acc →
    smallR rs ∧ rs.length + l'.length ≤ acc.length + l.length ∧ l'.length ≤ l.length
  | 0, above, acc, l, rs, l', h, _, ha => by
    simp only [more_, Option.some.injEq, Prod.mk.injEq] at h
    obtain ⟨rfl, rfl⟩ := h
    exact ⟨ha, Nat.le_refl _, Nat.le_refl _⟩
  | m + 1, above, acc, l, rs, l', h, hab, ha => by
    unfold more_ at h
    rcases hn : num_ l with _ | ⟨gap, l1⟩
    · rw [hn] at h; cases h
    · rw [hn] at h
      simp only at h
      by_cases hle : gap + 2 ≤ above
      · rw [if_pos hle] at h
        rcases hd : down_ (above - gap - 2) l1 with _ | ⟨r, l2⟩
        · rw [hd] at h; cases h
        · rw [hd] at h
          simp only at h
          have h1 := num_le hn
          have h2 := down_le hd
          have := more_le m r.1 (acc ++ [r]) l2 rs l' h (by omega) (fun x hx => by
            rcases List.mem_append.1 hx with hx | hx
            · exact ha x hx
            · simp only [List.mem_singleton] at hx
              subst hx
              unfold big
              omega)
          refine ⟨this.1, ?_, by omega⟩
          have h3 := this.2.1
          rw [List.length_append, List.length_singleton] at h3
          omega
      · rw [if_neg hle] at h; cases h

theorem acks_le {l : List UInt8} {r : List (Nat × Nat)} {n : Nat} {l' : List UInt8} (h : acks_ l = some ((r, n), l')) : smallR r ∧ r.length ≤ l.length ∧ n ≤ 4611686018427387903 ∧ l'.length ≤ l.length := by
  unfold acks_ at h
  rcases h1 : num_ l with _ | ⟨top, l1⟩
  · rw [h1] at h; cases h
  rw [h1] at h
  simp only at h
  rcases h2 : num_ l1 with _ | ⟨delay, l2⟩
  · rw [h2] at h; cases h
  rw [h2] at h
  simp only at h
  rcases h3 : num_ l2 with _ | ⟨more, l3⟩
  · rw [h3] at h; cases h
  rw [h3] at h
  simp only at h
  rcases h4 : down_ top l3 with _ | ⟨r4, l4⟩
  · rw [h4] at h; cases h
  rw [h4] at h
  simp only at h
  rcases h5 : more_ more r4.1 [r4] l4 with _ | ⟨rs, l5⟩
  · rw [h5] at h; cases h
  rw [h5] at h
  simp only [Option.some.injEq, Prod.mk.injEq] at h
  obtain ⟨⟨rfl, rfl⟩, rfl⟩ := h
  have k1 := num_le h1
  have k2 := num_le h2
  have k3 := num_le h3
  have k4 := down_le h4
  have k5 := more_le _ _ _ _ _ _ h5 (by omega) (fun x hx => by
    simp only [List.mem_singleton] at hx
    subst hx
    unfold big
    omega)
  have k6 := k5.2.1
  simp only [List.length_singleton] at k6
  exact ⟨fun x hx => k5.1 x (List.mem_reverse.1 hx), by rw [List.length_reverse]; omega, k2.1, by omega⟩

theorem len_le {b : Bool} {k : Nat} {l : List UInt8} {n : Nat} {l' : List UInt8} (h : len_ b k l = some (n, l')) : l'.length ≤ l.length := by
  unfold len_ at h
  cases b
  · by_cases hk : k = 8
    · simp [hk] at h
      rw [h.2]
      exact Nat.le_refl _
    · simp [hk] at h
      rw [h.2]
      exact Nat.le_refl _
  · have := num_le (by simpa using h)
    omega

theorem own_fresh {w : World} {base : Nat} {e : TypeId} {size n c : Nat} {A : Option Addr} {xs : List Value} (h : w.ownsRow base e size (.slice A n c) n xs) : Fresh base A := by
  intro p hp
  subst hp
  exact (h.lt p.block rfl).1

end Go.Proofs.YtkkojhkglcigmaaDoor
