/-
  Frames: what is read has, appended, at most as many bytes, but for the length of a stream that had none. Plain mathematics.
  Frames: all frames of the bytes of frames; paddings that follow one another as one. Plain mathematics.
-/
import Derived.Test.YtnbeplfceflnjaaDoorFLen
import Derived.Test.YtnbeplfceflnjaaDoorFApp
namespace Go.Proofs.YtnbeplfceflnjaaDoor

section
set_option linter.unusedVariables false

theorem num_cost {l t : List UInt8} {n : Nat} (h : num_ l = some (n, t)) : t.length + szN n ≤ l.length := by
  unfold num_ at h
  rcases htk : tk l with _ | ⟨m, k⟩
  · rw [htk] at h; cases h
  · rw [htk] at h
    simp only [Option.some.injEq, Prod.mk.injEq] at h
    obtain ⟨rfl, rfl⟩ := h
    have h1 := tk_room htk
    have h2 := tk_shortest htk
    rw [List.length_drop]
    omega
theorem numIf_cost {b : Bool} {l t : List UInt8} {n : Nat} (h : numIf_ b l = some (n, t)) : t.length + (if b = true then szN n else 0) ≤ l.length ∧ (b = false → n = 0) := by
  unfold numIf_ at h
  cases b
  · simp only [Bool.false_eq_true, if_false, Option.some.injEq, Prod.mk.injEq] at h
    obtain ⟨rfl, rfl⟩ := h
    exact ⟨by simp, fun _ => rfl⟩
  · exact ⟨num_cost (by simpa using h), fun e => by cases e⟩
theorem down_cost {top : Nat} {l t : List UInt8} {x : Nat × Nat} (h : down_ top l = some (x, t)) : t.length + szN (x.2 - 1 - x.1) ≤ l.length ∧ x.1 ≤ top ∧ x.2 = top + 1 := by
  unfold down_ at h
  rcases hn : num_ l with _ | ⟨n, t'⟩
  · rw [hn] at h; cases h
  · rw [hn] at h
    simp only at h
    split at h
    · simp only [Option.some.injEq, Prod.mk.injEq] at h
      obtain ⟨rfl, rfl⟩ := h
      have := num_cost hn
      refine ⟨?_, by simp, rfl⟩
      rw [show top + 1 - 1 - (top - n) = n by omega]
      exact this
    · cases h
theorem more_prefix : ∀ (m a : Nat) (acc : List (Nat × Nat)) (l : List UInt8) (rs : List (Nat × Nat)) (l' : List UInt8), more_ m a acc l = some (rs, l') → ∃ new, rs = acc ++ new ∧ new.length = m
  | 0, a, acc, l, rs, l', h => by
    unfold more_ at h
    simp only [Option.some.injEq, Prod.mk.injEq] at h
    exact ⟨[], by rw [List.append_nil]; exact h.1.symm, rfl⟩
  | m + 1, a, acc, l, rs, l', h => by
    unfold more_ at h
    rcases hn : num_ l with _ | ⟨gap, l1⟩
    · rw [hn] at h; cases h
    rw [hn] at h
    simp only at h
    split at h
    · rcases hd : down_ (a - gap - 2) l1 with _ | ⟨r, l2⟩
      · rw [hd] at h; cases h
      rw [hd] at h
      simp only at h
      obtain ⟨new, h1, h2⟩ := more_prefix m _ _ _ _ _ h
      exact ⟨r :: new, by rw [h1]; simp, by simp [h2]⟩
    · cases h
theorem sumSz_two (a b : Nat) (l : List Nat) : sumSz ([a, b] ++ l) = szN a + (szN b + sumSz l) := by simp [sumSz]
theorem more_cost (L : List (Nat × Nat)) : ∀ (m : Nat) (acc : List (Nat × Nat)) (l l' : List UInt8), m < L.length → more_ m (L.getD m (0, 0)).1 acc l = some (acc ++ (L.take m).reverse, l') → l'.length + sumSz (lowNums L m) ≤ l.length
  | 0, acc, l, l', _, h => by
    unfold more_ at h
    simp only [Option.some.injEq, Prod.mk.injEq] at h
    obtain ⟨_, rfl⟩ := h
    simp [lowNums, sumSz]
  | m + 1, acc, l, l', hm, h => by
    unfold more_ at h
    rcases hn : num_ l with _ | ⟨gap, l1⟩
    · rw [hn] at h; cases h
    rw [hn] at h
    simp only at h
    split at h
    · rename_i hg
      rcases hd : down_ ((L.getD (m + 1) (0, 0)).1 - gap - 2) l1 with _ | ⟨r, l2⟩
      · rw [hd] at h; cases h
      rw [hd] at h
      simp only at h
      obtain ⟨x, hx⟩ : ∃ x, L[m]? = some x := ⟨_, List.getElem?_eq_getElem (by omega)⟩
      have gx : L.getD m (0, 0) = x := by rw [List.getD_eq_getElem?_getD, hx]; rfl
      have ht : (L.take (m + 1)).reverse = x :: (L.take m).reverse := by rw [List.take_add_one, hx]; simp
      obtain ⟨new, e1, e2⟩ := more_prefix _ _ _ _ _ _ h
      rw [ht, List.append_assoc] at e1
      have e3 := List.append_cancel_left e1
      simp only [List.singleton_append, List.cons.injEq] at e3
      obtain ⟨rfl, e4⟩ := e3
      have h' : more_ m (L.getD m (0, 0)).1 (acc ++ [x]) l2 = some ((acc ++ [x]) ++ (L.take m).reverse, l') := by
        rw [gx, h, ht]
        simp
      have ih := more_cost L m (acc ++ [x]) l2 l' (by omega) h'
      have c1 := num_cost hn
      obtain ⟨c2, c3, c4⟩ := down_cost hd
      unfold lowNums
      rw [gx, sumSz_two, show (L.getD (m + 1) (0, 0)).1 - x.2 - 1 = gap by omega]
      omega
    · cases h
theorem acks_cost {l l' : List UInt8} {f : PF} (h : acks_ l = some ((f.acks, f.delay), l')) : l'.length + sumSz (ackNums f) ≤ l.length := by
  unfold acks_ at h
  rcases h1 : num_ l with _ | ⟨top, l1⟩
  · rw [h1] at h; cases h
  rw [h1] at h
  simp only at h
  rcases h2 : num_ l1 with _ | ⟨delay, l2⟩
  · rw [h2] at h; cases h
  rw [h2] at h
  simp only at h
  rcases h3 : num_ l2 with _ | ⟨more, l3⟩
  · rw [h3] at h; cases h
  rw [h3] at h
  simp only at h
  rcases h4 : down_ top l3 with _ | ⟨r, l4⟩
  · rw [h4] at h; cases h
  rw [h4] at h
  simp only at h
  rcases h5 : more_ more r.1 [r] l4 with _ | ⟨rs, l5⟩
  · rw [h5] at h; cases h
  rw [h5] at h
  simp only [Option.some.injEq, Prod.mk.injEq] at h
  obtain ⟨⟨ha, hd⟩, rfl⟩ := h
  obtain ⟨new, e1, e2⟩ := more_prefix _ _ _ _ _ _ h5
  have hR : f.acks = new.reverse ++ [r] := by rw [← ha, e1]; simp
  have hk : f.acks.length - 1 = more := by rw [hR, List.length_append, List.length_reverse, e2]; simp
  have gr : f.acks.getD more (0, 0) = r := by
    rw [hR, List.getD_eq_getElem?_getD, List.getElem?_append_right (by rw [List.length_reverse, e2]; exact Nat.le_refl _), List.length_reverse, e2, Nat.sub_self]
    rfl
  have ht : (f.acks.take more).reverse = new := by
    rw [hR, List.take_left' (by rw [List.length_reverse, e2]), List.reverse_reverse]
  have c5 := more_cost f.acks more [r] l4 l5 (by rw [hR, List.length_append, List.length_reverse, e2]; simp) (by rw [gr, h5, ht, e1])
  have c1 := num_cost h1
  have c2 := num_cost h2
  have c3 := num_cost h3
  obtain ⟨c4, c6, c7⟩ := down_cost h4
  unfold ackNums
  simp only [hk, gr, ← hd]
  rw [show [r.2 - 1, delay, more, r.2 - 1 - r.1] ++ lowNums f.acks more = [r.2 - 1, delay] ++ ([more, r.2 - 1 - r.1] ++ lowNums f.acks more) from rfl, sumSz_two, sumSz_two, show r.2 - 1 = top by omega]
  rw [show r.2 - 1 = top by omega] at c4
  omega

def cC (c : Bool) (g : PF) : Nat := if c = true then 17 + g.cid.length else 0
def cD (t d : Bool) (g : PF) : Nat := if d = true then g.data.length + (if t = true then szN g.data.length else 0) else 0
def cE (e : Bool) (g : PF) : Nat := if e = true then szN g.e0 + szN g.e1 + szN g.e2 else 0

theorem sF_eq {f g : PF} {l r : List UInt8} (h : sF f l = some (g, r)) : g = f ∧ r = l := by
  unfold sF at h
  split at h
  · simp only [Option.some.injEq, Prod.mk.injEq] at h
    exact ⟨h.1.symm, h.2.symm⟩
  · cases h
theorem s9_cost {c : Bool} {f g : PF} {l r : List UInt8} (h : s9 c f l = some (g, r)) : { g with cid := f.cid, token := f.token } = f ∧ r.length + cC c g ≤ l.length ∧ (c = false → r = l) := by
  unfold s9 at h
  cases c
  · simp only [Bool.false_eq_true, if_false] at h
    obtain ⟨rfl, rfl⟩ := sF_eq h
    exact ⟨rfl, by simp [cC], fun _ => rfl⟩
  · simp only [if_true] at h
    rcases hn : cid_ l with _ | ⟨⟨a, b⟩, l'⟩
    · rw [hn] at h; cases h
    rw [hn] at h
    simp only at h
    obtain ⟨rfl, rfl⟩ := sF_eq h
    refine ⟨rfl, ?_, fun e => by cases e⟩
    cases l with
    | nil => cases hn
    | cons y t =>
      unfold cid_ at hn
      simp only at hn
      split at hn
      · split at hn
        · simp only [Option.some.injEq, Prod.mk.injEq] at hn
          obtain ⟨⟨rfl, rfl⟩, rfl⟩ := hn
          rename_i k1 k2
          simp only [cC, if_true, List.length_drop, List.length_cons, List.length_take] at k2 ⊢
          omega
        · cases hn
      · cases hn
theorem s8_cost {t d c : Bool} {f g : PF} {l r : List UInt8} (h : s8 t d c f l = some (g, r)) : { g with data := f.data, cid := f.cid, token := f.token } = f ∧ r.length + cC c g + cD t d g ≤ l.length ∧ (d = true → t = false → f.kind = 8 → c = false → r = []) := by
  unfold s8 at h
  cases d
  · simp only [Bool.false_eq_true, if_false] at h
    obtain ⟨h1, h2, h3⟩ := s9_cost h
    have hd : g.data = f.data := by have e := congrArg PF.data h1; exact e
    refine ⟨?_, by simpa [cD] using h2, fun e => by cases e⟩
    rw [← hd]
    exact h1
  · simp only [if_true] at h
    rcases hn : data_ t f.kind l with _ | ⟨x, l'⟩
    · rw [hn] at h; cases h
    rw [hn] at h
    simp only at h
    obtain ⟨h1, h2, h3⟩ := s9_cost h
    have hd : g.data = x := by have e := congrArg PF.data h1; exact e
    have hdata : l'.length + x.length + (if t = true then szN x.length else 0) ≤ l.length ∧ (t = false → f.kind = 8 → l' = []) := by
      unfold data_ len_ at hn
      cases t
      · simp only [Bool.false_eq_true, if_false] at hn
        split at hn
        · simp at hn
        · rename_i n l1 he
          split at hn
          · simp only [Option.some.injEq, Prod.mk.injEq] at hn
            obtain ⟨rfl, rfl⟩ := hn
            by_cases h8 : f.kind = 8
            · rw [if_pos h8] at he
              simp only [Option.some.injEq, Prod.mk.injEq] at he
              obtain ⟨rfl, rfl⟩ := he
              exact ⟨by simp, fun _ _ => by simp⟩
            · rw [if_neg h8] at he
              simp only [Option.some.injEq, Prod.mk.injEq] at he
              obtain ⟨rfl, rfl⟩ := he
              exact ⟨by simp; omega, fun _ e => absurd e h8⟩
          · cases hn
      · simp only [if_true] at hn
        split at hn
        · cases hn
        · rename_i n l1 he
          split at hn
          · rename_i hle
            simp only [Option.some.injEq, Prod.mk.injEq] at hn
            obtain ⟨rfl, rfl⟩ := hn
            have := num_cost he
            have hx : (l1.take n).length = n := by rw [List.length_take]; omega
            refine ⟨?_, fun e => by cases e⟩
            rw [hx, List.length_drop]
            simp only [if_true]
            omega
          · cases hn
    refine ⟨?_, ?_, fun _ ht hk hc => ?_⟩
    · have h1' := congrArg (fun z : PF => { z with data := f.data }) h1
      exact h1'
    · unfold cD
      rw [if_pos rfl, hd]
      have := hdata.1
      omega
    · rw [h3 hc]
      exact hdata.2 ht hk
theorem s5_cost {e t d c : Bool} {f g : PF} {l r : List UInt8} (h : s5 e t d c f l = some (g, r)) : { g with e0 := f.e0, e1 := f.e1, e2 := f.e2, data := f.data, cid := f.cid, token := f.token } = f ∧ r.length + cC c g + cD t d g + cE e g ≤ l.length ∧ (d = true → t = false → f.kind = 8 → c = false → r = []) := by
  unfold s5 at h
  rcases h1 : numIf_ e l with _ | ⟨n1, l1⟩
  · rw [h1] at h; cases h
  rw [h1] at h
  simp only at h
  unfold s6 at h
  rcases h2 : numIf_ e l1 with _ | ⟨n2, l2⟩
  · rw [h2] at h; cases h
  rw [h2] at h
  simp only at h
  unfold s7 at h
  rcases h3 : numIf_ e l2 with _ | ⟨n3, l3⟩
  · rw [h3] at h; cases h
  rw [h3] at h
  simp only at h
  have k1 := (numIf_cost h1).1
  have k2 := (numIf_cost h2).1
  have k3 := (numIf_cost h3).1
  obtain ⟨q1, q2, q3⟩ := s8_cost h
  have g0 : g.e0 = n1 := by have e := congrArg PF.e0 q1; exact e
  have g1 : g.e1 = n2 := by have e := congrArg PF.e1 q1; exact e
  have g2 : g.e2 = n3 := by have e := congrArg PF.e2 q1; exact e
  refine ⟨by have e := congrArg (fun z : PF => { z with e0 := f.e0, e1 := f.e1, e2 := f.e2 }) q1; exact e, ?_, q3⟩
  unfold cE
  cases e
  · simp only [Bool.false_eq_true, if_false] at k1 k2 k3 ⊢
    omega
  · simp only [if_true] at k1 k2 k3 ⊢
    rw [g0, g1, g2]
    omega
theorem s4_cost {a e t d c : Bool} {f g : PF} {l r : List UInt8} (h : s4 a e t d c f l = some (g, r)) : { g with acks := f.acks, delay := f.delay, e0 := f.e0, e1 := f.e1, e2 := f.e2, data := f.data, cid := f.cid, token := f.token } = f ∧ r.length + cC c g + cD t d g + cE e g + (if a = true then sumSz (ackNums g) else 0) ≤ l.length ∧ (d = true → t = false → f.kind = 8 → c = false → r = []) := by
  unfold s4 at h
  cases a
  · simp only [Bool.false_eq_true, if_false] at h
    obtain ⟨q1, q2, q3⟩ := s5_cost h
    have g0 : g.acks = f.acks := by have e := congrArg PF.acks q1; exact e
    have g1 : g.delay = f.delay := by have e := congrArg PF.delay q1; exact e
    refine ⟨?_, by simpa using q2, q3⟩
    rw [← g0, ← g1]
    exact q1
  · simp only [if_true] at h
    rcases hn : acks_ l with _ | ⟨⟨x, y⟩, l'⟩
    · rw [hn] at h; cases h
    rw [hn] at h
    simp only at h
    obtain ⟨q1, q2, q3⟩ := s5_cost h
    have g0 : g.acks = x := by have e := congrArg PF.acks q1; exact e
    have g1 : g.delay = y := by have e := congrArg PF.delay q1; exact e
    have hc := acks_cost (f := g) (l := l) (l' := l') (by rw [hn, g0, g1])
    refine ⟨by have e := congrArg (fun z : PF => { z with acks := f.acks, delay := f.delay }) q1; exact e, ?_, q3⟩
    simp only [if_true]
    omega
theorem s0_cost {i j o x a e t d c : Bool} {f g : PF} {l r : List UInt8} (h : s0 i j o x a e t d c f l = some (g, r)) : g.kind = f.kind ∧ g.fin = f.fin ∧ g.n = f.n ∧ (j = false → g.off = 0) ∧
    r.length + cC c g + cD t d g + cE e g + (if a = true then sumSz (ackNums g) else 0) + ((if i = true then szN g.id else 0) + (if j = true then szN g.off else 0) + (if o = true then szN g.code else 0) + (if x = true then szN g.max else 0)) ≤ l.length ∧ (d = true → t = false → f.kind = 8 → c = false → r = []) := by
  unfold s0 at h
  rcases h1 : numIf_ i l with _ | ⟨n1, l1⟩
  · rw [h1] at h; cases h
  rw [h1] at h
  simp only at h
  unfold s1 at h
  rcases h2 : numIf_ j l1 with _ | ⟨n2, l2⟩
  · rw [h2] at h; cases h
  rw [h2] at h
  simp only at h
  unfold s2 at h
  rcases h3 : numIf_ o l2 with _ | ⟨n3, l3⟩
  · rw [h3] at h; cases h
  rw [h3] at h
  simp only at h
  unfold s3 at h
  rcases h4 : numIf_ x l3 with _ | ⟨n4, l4⟩
  · rw [h4] at h; cases h
  rw [h4] at h
  simp only at h
  have k1 := numIf_cost h1
  have k2 := numIf_cost h2
  have k3 := numIf_cost h3
  have k4 := numIf_cost h4
  obtain ⟨q1, q2, q3⟩ := s4_cost h
  have g0 : g.id = n1 := by have e := congrArg PF.id q1; exact e
  have g1 : g.off = n2 := by have e := congrArg PF.off q1; exact e
  have g2 : g.code = n3 := by have e := congrArg PF.code q1; exact e
  have g3 : g.max = n4 := by have e := congrArg PF.max q1; exact e
  refine ⟨by have e := congrArg PF.kind q1; exact e, by have e := congrArg PF.fin q1; exact e, by have e := congrArg PF.n q1; exact e, fun e => by rw [g1]; exact k2.2 e, ?_, q3⟩
  rw [g0, g1, g2, g3]
  omega
theorem sP_cost {p : Nat} {f g : PF} {l r : List UInt8} (hp : bt p 32 = false) (h : sP p f l = some (g, r)) : g.kind = f.kind ∧ g.fin = f.fin ∧ g.n = f.n ∧ (bt p 4 = false → g.off = 0) ∧
    r.length + cC (bt p 2048) g + cD (bt p 512) (bt p 1024) g + cE (bt p 256) g + (if bt p 128 = true then sumSz (ackNums g) else 0) + ((if bt p 2 = true then szN g.id else 0) + (if bt p 4 = true then szN g.off else 0) + (if bt p 8 = true then szN g.code else 0) + (if bt p 16 = true then szN g.max else 0)) ≤ l.length ∧ (bt p 1024 = true → bt p 512 = false → f.kind = 8 → bt p 2048 = false → r = []) := by
  unfold sP at h
  split at h
  · unfold sM at h
    rw [hp] at h
    simp only [Bool.false_eq_true, if_false] at h
    exact s0_cost h
  · cases h

theorem pn_sum (f : PF) (k : Nat) (l : List Nat) : sumSz (pn f k l) = if bt (wireP f) k = true then sumSz l else 0 := by
  unfold pn
  split <;> simp [sumSz]
theorem sumSz_app (a b : List Nat) : sumSz (a ++ b) = sumSz a + sumSz b := by simp [sumSz]
theorem sumSz_sing (a : Nat) : sumSz [a] = szN a := by simp [sumSz]

/-- How many bytes a frame that is no padding has. -/
theorem sizeF_form {f : PF} (h : MayF f) (h0 : f.kind ≠ 0) : sizeF f = 1 + (f.data.length + f.cid.length + (if bt (wireP f) 2048 = true then 17 else 0) + ((if bt (wireP f) 2 = true then szN f.id else 0) + (if bt (wireP f) 4 = true then szN f.off else 0) + (if bt (wireP f) 8 = true then szN f.code else 0) + (if bt (wireP f) 16 = true then szN f.max else 0)
    + (if bt (wireP f) 128 = true then sumSz (ackNums f) else 0) + cE (bt (wireP f) 256) f + (if bt (wireP f) 512 = true then szN f.data.length else 0))) := by
  have hw := (wire_first h h0).1
  have hsw : szN (wireN f) = 1 := szN_1 (by omega)
  have hcid : bt (wireP f) 2048 = true → szN f.cid.length = 1 := fun e => by
    have := (h.2.2.2.2.2.2.2.1 ((cls_wire h h0).cid e)).2.1
    exact szN_1 (by omega)
  unfold sizeF numsN
  rw [if_neg h0, ← wire_2048 h]
  simp only [sumSz_app, pn_sum, sumSz_sing, hsw]
  have e3 : sumSz [f.e0, f.e1, f.e2] = szN f.e0 + szN f.e1 + szN f.e2 := by simp [sumSz]; omega
  rw [e3]
  unfold cE
  rcases hb : bt (wireP f) 2048 with _ | _
  · simp only [Bool.false_eq_true, if_false]
    omega
  · rw [hcid hb]
    simp only [if_true]
    omega

theorem strC_bits : ∀ x : Nat, x / 8 = 1 → bt (strN x) 32 = false ∧ bt (strN x) 2048 = false ∧ bt (strN x) 1024 = true ∧ bt (strN x) 2 = true ∧ bt (strN x) 256 = false ∧ bt (strN x) 128 = false ∧ bt (strN x) 8 = false ∧ bt (strN x) 16 = false := by
  intro x hx
  have h : ∀ y : Nat, y < 16 → y / 8 = 1 → bt (strN y) 32 = false ∧ bt (strN y) 2048 = false ∧ bt (strN y) 1024 = true ∧ bt (strN y) 2 = true ∧ bt (strN y) 256 = false ∧ bt (strN y) 128 = false ∧ bt (strN y) 8 = false ∧ bt (strN y) 16 = false := by decide +kernel
  exact h x (by omega) hx
theorem wire8_bits (f : PF) (h : f.kind = 8) : bt (wireP f) 2048 = false ∧ bt (wireP f) 2 = true ∧ bt (wireP f) 256 = false ∧ bt (wireP f) 128 = false ∧ bt (wireP f) 8 = false ∧ bt (wireP f) 16 = false ∧ bt (wireP f) 512 = true ∧ (bt (wireP f) 4 = true → f.off ≠ 0) := by
  unfold wireP
  by_cases ho : f.off = 0
  · rw [if_pos ⟨h, ho⟩]
    refine ⟨?_, ?_, ?_, ?_, ?_, ?_, ?_, fun e => ?_⟩ <;> first | decide | exact absurd e (by decide)
  · rw [if_neg (fun e => ho e.2), h]
    refine ⟨?_, ?_, ?_, ?_, ?_, ?_, ?_, fun _ => ho⟩ <;> decide

theorem frame_size {l r : List UInt8} {g : PF} (h : frame_ l = some (g, r)) : sizeF g + r.length ≤ l.length ∨ (r = [] ∧ sizeF g ≤ l.length + 8) := by
  have hmay := (frame_len h).2
  cases l with
  | nil => cases h
  | cons x t =>
    rw [frame_cons] at h
    split at h
    · rename_i hx
      obtain ⟨b32, b2048, b1024, b2, b256, b128, b8, b16⟩ := strC_bits x.toNat hx
      obtain ⟨k1, k2, k3, k4, k5, k6⟩ := sP_cost b32 h
      have hk : g.kind = 8 := k1
      obtain ⟨w1, w2, w3, w4, w5, w6, w7, w8⟩ := wire8_bits g hk
      have hc : g.cid = [] := ((onW_wire hmay).cid w1).1
      have hoff : (if bt (wireP g) 4 = true then szN g.off else 0) ≤ (if bt (strN x.toNat) 4 = true then szN g.off else 0) := by
        rcases hb : bt (wireP g) 4 with _ | _
        · simp
        · rcases hs : bt (strN x.toNat) 4 with _ | _
          · exact absurd (k4 hs) (w8 hb)
          · exact Nat.le_refl _
      rw [sizeF_form hmay (by omega), w1, w2, w3, w4, w5, w6, w7, hc]
      rw [b2048, b1024, b2, b256, b128, b8, b16] at k5
      rw [b1024, b2048] at k6
      unfold cC cD cE at k5
      unfold cE
      simp only [Bool.false_eq_true, if_false, if_true, List.length_nil, List.length_cons] at k5 ⊢
      rcases hs : bt (strN x.toNat) 512 with _ | _
      · right
        have hr := k6 rfl hs rfl rfl
        rw [hs] at k5
        have := szN_le g.data.length
        simp only [Bool.false_eq_true, if_false] at k5
        rw [hr] at k5 ⊢
        simp only [List.length_nil] at k5
        exact ⟨rfl, by omega⟩
      · left
        rw [hs] at k5
        simp only [if_true] at k5
        omega
    · rename_i hx
      rcases hp : bt (partsN x.toNat) 32 with _ | _
      · obtain ⟨k1, k2, k3, k4, k5, k6⟩ := sP_cost hp h
        have hk : g.kind = x.toNat := k1
        have h0 : g.kind ≠ 0 := fun e => by
          rw [hk] at e
          rw [e] at hp
          exact absurd hp (by decide)
        have hwp : wireP g = partsN x.toNat := by
          unfold wireP
          rw [if_neg (fun e => hx (by rw [← hk, e.1])), hk]
        have hw := onW_wire hmay
        have hcl := cls_wire hmay h0
        left
        rw [sizeF_form hmay h0, hwp]
        rw [hwp] at hw hcl
        unfold cC cD at k5
        have hdat : (if bt (partsN x.toNat) 512 = true then szN g.data.length else 0) + g.data.length ≤ if bt (partsN x.toNat) 1024 = true then g.data.length + (if bt (partsN x.toNat) 512 = true then szN g.data.length else 0) else 0 := by
          rcases hb : bt (partsN x.toNat) 1024 with _ | _
          · have ht : bt (partsN x.toNat) 512 = false := by
              rcases ht : bt (partsN x.toNat) 512 with _ | _
              · rfl
              · have := hcl.told ht
                rw [hb] at this
                cases this
            rw [ht, hw.data hb]
            simp
          · simp only [if_true]
            omega
        have hcid : (if bt (partsN x.toNat) 2048 = true then 17 else 0) + g.cid.length ≤ if bt (partsN x.toNat) 2048 = true then 17 + g.cid.length else 0 := by
          rcases hb : bt (partsN x.toNat) 2048 with _ | _
          · rw [(hw.cid hb).1]; simp
          · simp
        simp only [List.length_cons]
        omega
      · have hx0 : x.toNat = 0 := by
          have h31 : ∀ k : Nat, bt (partsN k) 32 = true → k = 0 := by
            intro k hk
            by_cases h31 : k < 31
            · have hd : ∀ k : Nat, k < 31 → bt (partsN k) 32 = true → k = 0 := by decide +kernel
              exact hd k h31 hk
            · have : partsN k = 0 := by
                unfold partsN
                rw [List.getD_eq_getElem?_getD, List.getElem?_eq_none (by show 31 ≤ k; omega)]
                rfl
              rw [this] at hk
              exact absurd hk (by decide)
          exact h31 _ hp
        left
        rw [hx0] at h
        unfold sP at h
        split at h
        · unfold sM at h
          rw [show bt (partsN 0) 32 = true by decide] at h
          simp only [if_true] at h
          obtain ⟨k1, _, k3, _, k5, _⟩ := s0_cost h
          have hk : g.kind = 0 := k1
          have hn : g.n = 1 + zerosN 65535 t := k3
          unfold sizeF
          rw [if_pos hk, hn]
          have := (zerosN_le 65535 t).2
          rw [List.length_drop] at k5
          simp only [List.length_cons]
          omega
        · cases h

/-- What is listed has, appended, at most eight bytes more. -/
theorem list_size : ∀ (k : Nat) (l : List UInt8) (m : List PF), listN k l = some m → (m.map sizeF).sum ≤ l.length + 8
  | 0, l, m, h => by
    unfold listN at h
    split at h
    · simp only [Option.some.injEq] at h
      subst h
      simp
    · cases h
  | k + 1, l, m, h => by
    unfold listN at h
    split at h
    · simp only [Option.some.injEq] at h
      subst h
      simp
    · rcases hf : frame_ l with _ | ⟨f, l'⟩
      · rw [hf] at h; cases h
      rw [hf] at h
      simp only at h
      rcases hl : listN k l' with _ | m'
      · rw [hl] at h; cases h
      rw [hl] at h
      simp only [Option.map_some, Option.some.injEq] at h
      subst h
      rw [List.map_cons, List.sum_cons]
      rcases frame_size hf with hs | ⟨rfl, hs⟩
      · have := list_size k l' m' hl
        omega
      · rw [listN_nil] at hl
        simp only [Option.some.injEq] at hl
        subst hl
        simp
        omega
end

section
set_option linter.unusedVariables false

/-- No two paddings follow one another. -/
def Jd : List PF → Prop
  | f :: g :: r => ¬ (f.kind = 0 ∧ g.kind = 0) ∧ Jd (g :: r)
  | _ => True
def bytesP (l : List PF) : List UInt8 := l.flatMap bytesF
theorem bytesP_cons (f : PF) (l : List PF) : bytesP (f :: l) = bytesF f ++ bytesP l := rfl
theorem bytesP_app (a b : List PF) : bytesP (a ++ b) = bytesP a ++ bytesP b := by simp [bytesP]
theorem bytesL_P (l : List (PF × SA)) : bytesL l = bytesP (l.map (·.1)) := by simp [bytesL, bytesP, List.flatMap_map]

theorem first_ne {f : PF} (h : MayF f) (h0 : f.kind ≠ 0) : ∃ x t, bytesF f = x :: t ∧ x ≠ 0 := by
  have e := bytesF_form h h0 []
  have hw := (wire_first h h0).1
  rw [List.append_nil, enc_byte _ hw] at e
  refine ⟨UInt8.ofNat (wireN f), restF f [], by rw [e]; rfl, fun hz => ?_⟩
  have hz2 := congrArg UInt8.toNat hz
  rw [UInt8.toNat_ofNat', Nat.mod_eq_of_lt (by omega)] at hz2
  have hz3 : wireN f = 0 := hz2
  unfold wireN at hz3
  split at hz3 <;> omega

theorem zerosN_rep : ∀ (k m : Nat) (R : List UInt8), k ≤ m → (∀ x t, R = x :: t → x ≠ 0) → zerosN m (List.replicate k 0 ++ R) = k
  | 0, m, R, _, hR => by
    cases R with
    | nil => cases m <;> simp [zerosN]
    | cons x t =>
      have := hR x t rfl
      cases m
      · simp [zerosN]
      · simp [zerosN, this]
  | k + 1, m, R, hk, hR => by
    obtain ⟨m', rfl⟩ : ∃ m', m = m' + 1 := ⟨m - 1, by omega⟩
    rw [List.replicate_succ, List.cons_append]
    unfold zerosN
    rw [if_pos rfl, zerosN_rep k m' R (by omega) hR]
theorem zerosN_stop : ∀ (m : Nat) (t : List UInt8) (x : UInt8) (r : List UInt8), t.length ≤ m → t.drop (zerosN m t) = x :: r → x ≠ 0
  | 0, t, x, r, h, e => by
    obtain rfl := List.eq_nil_of_length_eq_zero (by omega : t.length = 0)
    simp at e
  | m + 1, [], x, r, h, e => by simp at e
  | m + 1, y :: t, x, r, h, e => by
    unfold zerosN at e
    by_cases hy : y = 0
    · rw [if_pos hy, List.drop_succ_cons] at e
      exact zerosN_stop m t x r (by simpa using h) e
    · rw [if_neg hy, List.drop_zero, List.cons.injEq] at e
      rw [← e.1]
      exact hy

theorem s0_none (f : PF) (l : List UInt8) : s0 false false false false false false false false false f l = sF { f with id := 0, off := 0, code := 0, max := 0, e0 := 0, e1 := 0, e2 := 0 } l := by
  unfold s0 s1 s2 s3 s4 s5 s6 s7 s8 s9 numIf_
  simp
theorem pad_read (t : List UInt8) : frame_ (0 :: t) = sF { zP 0 with n := 1 + zerosN 65535 t } (t.drop (zerosN 65535 t)) := by
  rw [frame_cons, if_neg (by decide)]
  unfold sP
  rw [if_pos (by decide)]
  unfold sM
  rw [if_pos (by decide)]
  have e : ∀ k, k ∈ [2, 4, 8, 16, 128, 256, 512, 1024, 2048] → bt (partsN (0 : UInt8).toNat) k = false := by decide
  rw [e 2 (by decide), e 4 (by decide), e 8 (by decide), e 16 (by decide), e 128 (by decide), e 256 (by decide), e 512 (by decide), e 1024 (by decide), e 2048 (by decide), s0_none]
  rfl
theorem pad_is {f : PF} (h : MayF f) (h0 : f.kind = 0) : f = { zP 0 with n := f.n } ∧ 0 < f.n ∧ f.n ≤ 65536 := by
  have hw := onW_parts h
  rw [h0] at hw
  obtain ⟨hw, hf⟩ := hw
  have h1 := hw.id (by decide)
  have h2 := hw.off (by decide)
  have h3 := hw.code (by decide)
  have h4 := hw.max (by decide)
  have h5 := hw.acks (by decide)
  have h6 := hw.ecn (by decide)
  have h7 := hw.data (by decide)
  have h8 := hw.cid (by decide)
  have h9 := hf (by decide)
  have hk := h.2.2.2.1 h0
  refine ⟨?_, hk⟩
  cases f
  simp only at h0 h1 h2 h3 h4 h5 h6 h7 h8 h9
  obtain ⟨rfl, rfl⟩ := h5
  obtain ⟨rfl, rfl, rfl⟩ := h6
  obtain ⟨rfl, rfl⟩ := h8
  subst h0 h1 h2 h3 h4 h7 h9
  rfl
theorem pad_back {n : Nat} (h1 : 0 < n) (h2 : n ≤ 65536) (hm : MayF { zP 0 with n := n }) {R : List UInt8} (hR : ∀ x t, R = x :: t → x ≠ 0) : frame_ (List.replicate n 0 ++ R) = some ({ zP 0 with n := n }, R) := by
  obtain ⟨k, rfl⟩ : ∃ k, n = k + 1 := ⟨n - 1, by omega⟩
  rw [List.replicate_succ, List.cons_append, pad_read, zerosN_rep k 65535 R (by omega) hR, List.drop_left' (by simp), Nat.add_comm 1 k]
  exact sF_may hm R

/-- What is asked of a frame that is listed. -/
def LOk (f : PF) : Prop := MayF f ∧ f.token.length = 16 ∧ f.acks.length ≤ 65536

theorem bytesP_head {l : List PF} (h : ∀ f ∈ l, LOk f) (hh : ∀ f r, l = f :: r → f.kind ≠ 0) : ∀ x t, bytesP l = x :: t → x ≠ 0 := by
  intro x t e
  cases l with
  | nil => cases e
  | cons f r =>
    obtain ⟨y, s, e1, e2⟩ := first_ne (h f (by simp)).1 (hh f r rfl)
    rw [bytesP_cons, e1, List.cons_append, List.cons.injEq] at e
    rw [← e.1]
    exact e2
theorem bytesF_pos {f : PF} (h : LOk f) : bytesF f ≠ [] := fun e => by
  have := sizeF_pos h.1
  rw [← bytesF_length h.2.1, e] at this
  simp at this

theorem list_back : ∀ js : List PF, Jd js → (∀ f ∈ js, LOk f) → listN (bytesP js).length (bytesP js) = some js
  | [], _, _ => by rw [show bytesP [] = [] from rfl, listN_nil]
  | f :: r, hj, hok => by
    have hf := hok f (by simp)
    have hr : ∀ g ∈ r, LOk g := fun g hg => hok g (by simp [hg])
    have hjr : Jd r := by
      cases r with
      | nil => trivial
      | cons g r => exact hj.2
    have hne : bytesP (f :: r) ≠ [] := fun e => by
      rw [bytesP_cons] at e
      exact bytesF_pos hf (List.append_eq_nil_iff.1 e).1
    have hfr : frame_ (bytesP (f :: r)) = some (f, bytesP r) := by
      rw [bytesP_cons]
      by_cases h0 : f.kind = 0
      · obtain ⟨e1, e2, e3⟩ := pad_is hf.1 h0
        have hb : bytesF f = List.replicate f.n 0 := by unfold bytesF; rw [if_pos h0]
        rw [hb]
        have hm := hf.1
        rw [e1] at hm
        rw [pad_back e2 e3 hm (bytesP_head hr (fun g r' e => fun hg => by subst e; exact hj.1 ⟨h0, hg⟩)), ← e1]
      · exact frame_back hf.1 h0 hf.2.1 hf.2.2 _
    rw [listN_step hne _ (Nat.le_refl _), hfr]
    simp only
    rw [list_back r hjr hr]
    rfl

theorem frame_kind {x : UInt8} {t r : List UInt8} {g : PF} (h : frame_ (x :: t) = some (g, r)) (h0 : g.kind = 0) : x = 0 ∧ r = t.drop (zerosN 65535 t) := by
  by_cases hx : x = 0
  · subst hx
    rw [pad_read] at h
    exact ⟨rfl, (sF_eq h).2⟩
  · exfalso
    rw [frame_cons] at h
    split at h
    · rename_i h8
      obtain ⟨k1, _⟩ := sP_cost (strC_bits x.toNat h8).1 h
      rw [h0] at k1
      cases k1
    · rcases hp : bt (partsN x.toNat) 32 with _ | _
      · obtain ⟨k1, _⟩ := sP_cost hp h
        rw [h0] at k1
        have k2 : x.toNat = 0 := k1.symm
        exact hx (UInt8.toNat_inj.1 k2)
      · unfold sP at h
        split at h
        · unfold sM at h
          rw [hp] at h
          simp only [if_true] at h
          obtain ⟨k1, _⟩ := s0_cost h
          rw [h0] at k1
          have k2 : x.toNat = 0 := k1.symm
          exact hx (UInt8.toNat_inj.1 k2)
        · cases h

theorem list_jd : ∀ (k : Nat) (l : List UInt8) (m : List PF), l.length ≤ 65536 → listN k l = some m → Jd m
  | 0, l, m, _, h => by
    unfold listN at h
    split at h
    · simp only [Option.some.injEq] at h
      subst h
      trivial
    · cases h
  | k + 1, l, m, hl, h => by
    unfold listN at h
    split at h
    · simp only [Option.some.injEq] at h
      subst h
      trivial
    · rcases hf : frame_ l with _ | ⟨f, l'⟩
      · rw [hf] at h; cases h
      rw [hf] at h
      simp only at h
      have hlen := (frame_len hf).1
      rcases hm : listN k l' with _ | m'
      · rw [hm] at h; cases h
      rw [hm] at h
      simp only [Option.map_some, Option.some.injEq] at h
      subst h
      have ih := list_jd k l' m' (by omega) hm
      cases m' with
      | nil => trivial
      | cons g r =>
        refine ⟨fun ⟨h1, h2⟩ => ?_, ih⟩
        cases l with
        | nil => cases hf
        | cons x t =>
          obtain ⟨rfl, e1⟩ := frame_kind hf h1
          cases k with
          | zero =>
            unfold listN at hm
            split at hm <;> cases hm
          | succ k =>
            unfold listN at hm
            split at hm
            · cases hm
            · rcases hg : frame_ l' with _ | ⟨g', l2⟩
              · rw [hg] at hm; cases hm
              rw [hg] at hm
              simp only at hm
              rcases hm2 : listN k l2 with _ | m2
              · rw [hm2] at hm; cases hm
              rw [hm2] at hm
              simp only [Option.map_some, Option.some.injEq, List.cons.injEq] at hm
              obtain ⟨rfl, _⟩ := hm
              cases hl' : l' with
              | nil => rw [hl'] at hg; cases hg
              | cons y s =>
                rw [hl'] at hg e1
                have hy := (frame_kind hg h2).1
                exact zerosN_stop 65535 t y s (by simp only [List.length_cons] at hl; omega) e1.symm hy

theorem list_ok : ∀ (k : Nat) (l : List UInt8) (m : List PF), listN k l = some m → ∀ f ∈ m, MayF f
  | 0, l, m, h => by
    unfold listN at h
    split at h
    · simp only [Option.some.injEq] at h
      subst h
      intro f hf
      cases hf
    · cases h
  | k + 1, l, m, h => by
    unfold listN at h
    split at h
    · simp only [Option.some.injEq] at h
      subst h
      intro f hf
      cases hf
    · rcases hf : frame_ l with _ | ⟨f, l'⟩
      · rw [hf] at h; cases h
      rw [hf] at h
      simp only at h
      rcases hm : listN k l' with _ | m'
      · rw [hm] at h; cases h
      rw [hm] at h
      simp only [Option.map_some, Option.some.injEq] at h
      subst h
      intro g hg
      rcases List.mem_cons.1 hg with rfl | hg
      · exact (frame_len hf).2
      · exact list_ok k l' m' hm g hg

/-- One more frame, joined. -/
def jstepP (acc : List PF) (f : PF) : List PF :=
  match acc.getLast? with
  | some g => if f.kind = 0 ∧ g.kind = 0 then acc.dropLast ++ [{ g with n := g.n + f.n }] else acc ++ [f]
  | none => [f]
def joinP (l : List PF) : List PF := l.foldl jstepP []
theorem jstepP_snoc (acc : List PF) (g f : PF) : jstepP (acc ++ [g]) f = if f.kind = 0 ∧ g.kind = 0 then acc ++ [{ g with n := g.n + f.n }] else acc ++ [g] ++ [f] := by
  unfold jstepP
  simp
theorem jstepP_bytes (acc : List PF) (f : PF) : bytesP (jstepP acc f) = bytesP acc ++ bytesF f := by
  rcases List.eq_nil_or_concat acc with rfl | ⟨ac, g, rfl⟩
  · simp [jstepP, bytesP]
  · rw [List.concat_eq_append, jstepP_snoc]
    split
    · rename_i h
      have e1 : bytesF { g with n := g.n + f.n } = List.replicate (g.n + f.n) 0 := if_pos h.2
      have e2 : bytesF g = List.replicate g.n 0 := if_pos h.2
      have e3 : bytesF f = List.replicate f.n 0 := if_pos h.1
      rw [bytesP_app, bytesP_app, bytesP_cons, bytesP_cons, e1, e2, e3, show bytesP [] = [] from rfl, List.append_nil, List.append_nil, List.append_assoc, List.replicate_append_replicate]
    · rw [bytesP_app, bytesP_cons, show bytesP [] = [] from rfl, List.append_nil]
theorem Jd_snoc : ∀ (ac : List PF) (g f : PF), Jd (ac ++ [g]) → ¬ (g.kind = 0 ∧ f.kind = 0) → Jd (ac ++ [g] ++ [f])
  | [], g, f, _, h => ⟨h, trivial⟩
  | [a], g, f, hj, h => ⟨hj.1, h, trivial⟩
  | a :: b :: ac, g, f, hj, h => ⟨hj.1, Jd_snoc (b :: ac) g f hj.2 h⟩
theorem Jd_last : ∀ (ac : List PF) (g g' : PF), g'.kind = g.kind → Jd (ac ++ [g]) → Jd (ac ++ [g'])
  | [], g, g', _, _ => trivial
  | [a], g, g', h, hj => ⟨by rw [h]; exact hj.1, trivial⟩
  | a :: b :: ac, g, g', h, hj => ⟨hj.1, Jd_last (b :: ac) g g' h hj.2⟩
theorem jstepP_jd (acc : List PF) (f : PF) (h : Jd acc) : Jd (jstepP acc f) := by
  rcases List.eq_nil_or_concat acc with rfl | ⟨ac, g, rfl⟩
  · trivial
  · rw [List.concat_eq_append] at h ⊢
    rw [jstepP_snoc]
    split
    · exact Jd_last ac g _ rfl h
    · rename_i hn
      exact Jd_snoc ac g f h (fun e => hn ⟨e.2, e.1⟩)

/-- What is known of frames that are joined: those that are no padding may be; the paddings are nothing but their number. -/
def JOk (f : PF) : Prop := (f.kind ≠ 0 → MayF f) ∧ (f.kind = 0 → f = { zP 0 with n := f.n } ∧ 0 < f.n) ∧ f.token.length = 16 ∧ f.acks.length ≤ 65536
theorem JOk.of {f : PF} (h : LOk f) : JOk f := ⟨fun _ => h.1, fun h0 => by obtain ⟨a, b, _⟩ := pad_is h.1 h0; exact ⟨a, b⟩, h.2⟩
theorem jstepP_ok (acc : List PF) (f : PF) (h : ∀ g ∈ acc, JOk g) (hf : JOk f) : ∀ g ∈ jstepP acc f, JOk g := by
  rcases List.eq_nil_or_concat acc with rfl | ⟨ac, g, rfl⟩
  · intro x hx
    simp only [jstepP, List.getLast?_nil, List.mem_singleton] at hx
    subst hx
    exact hf
  · rw [List.concat_eq_append] at h ⊢
    rw [jstepP_snoc]
    split
    · rename_i hk
      intro x hx
      rcases List.mem_append.1 hx with hx | hx
      · exact h x (List.mem_append.2 (.inl hx))
      · rw [List.mem_singleton] at hx
        have hg := h g (by simp)
        obtain ⟨e1, e2⟩ := hg.2.1 hk.2
        subst hx
        refine ⟨fun hz => absurd hk.2 hz, fun _ => ⟨?_, by simp only; omega⟩, hg.2.2⟩
        rw [e1]
    · intro x hx
      rcases List.mem_append.1 hx with hx | hx
      · exact h x hx
      · rw [List.mem_singleton] at hx
        subst hx
        exact hf
theorem joinP_facts (l : List PF) : ∀ acc : List PF, Jd acc → (∀ g ∈ acc, JOk g) → (∀ g ∈ l, JOk g) → Jd (l.foldl jstepP acc) ∧ (∀ g ∈ l.foldl jstepP acc, JOk g) ∧ bytesP (l.foldl jstepP acc) = bytesP acc ++ bytesP l := by
  induction l with
  | nil => intro acc h1 h2 _; exact ⟨h1, h2, by simp [bytesP]⟩
  | cons f l ih =>
    intro acc h1 h2 h3
    obtain ⟨k1, k2, k3⟩ := ih (jstepP acc f) (jstepP_jd acc f h1) (jstepP_ok acc f h2 (h3 f (by simp))) (fun g hg => h3 g (by simp [hg]))
    refine ⟨k1, k2, ?_⟩
    rw [List.foldl_cons, k3, jstepP_bytes, bytesP_cons, List.append_assoc]
theorem mayF_pad {k : Nat} (h1 : 0 < k) (h2 : k ≤ 65536) : MayF { zP 0 with n := k } := by
  have e32 : bt (partsN 0) 32 = true := by decide
  have etok : tokB (List.replicate 16 0) = true := by decide
  refine ⟨(by decide : bt (partsN 0) 1 = true), ?_, ?_, fun _ => ⟨h1, h2⟩, ?_, ?_, ?_, ?_, ?_⟩
  · show onlyB { zP 0 with n := k } (partsN 0) = true
    unfold onlyB
    rw [e32]
    simp [zP, ecnB]
    exact .inr etok
  · unfold numsB
    simp [zP, topN]
  all_goals
    intro h
    simp [zP] at h
theorem join_list {l : List PF} (h : ∀ f ∈ l, LOk f) (hfit : ∀ f ∈ joinP l, f.kind = 0 → f.n ≤ 65536) : listN (bytesP l).length (bytesP l) = some (joinP l) := by
  obtain ⟨k1, k2, k3⟩ := joinP_facts l [] trivial (fun g hg => by cases hg) (fun g hg => JOk.of (h g hg))
  rw [show bytesP [] = [] from rfl, List.nil_append] at k3
  rw [← k3]
  refine list_back (joinP l) k1 fun f hf => ?_
  obtain ⟨e1, e2, e3⟩ := k2 f hf
  refine ⟨?_, e3⟩
  by_cases h0 : f.kind = 0
  · obtain ⟨e4, e5⟩ := e2 h0
    rw [e4]
    exact mayF_pad e5 (hfit f hf h0)
  · exact e1 h0
end

end Go.Proofs.YtnbeplfceflnjaaDoor
