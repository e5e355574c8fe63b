/-
  Transport parameters: plain mathematics. No program is named here.
-/
import Derived.Test.YtpnpbjdkldmmdaaDoorMath2
namespace Go.Proofs.YtpnpbjdkldmmdaaDoor
set_option linter.unusedVariables false

/-- Parameters. -/
structure PQ where
  orig : List UInt8
  cid : List UInt8
  idle : Nat
  data : Nat
  sOwn : Nat
  sPeer : Nat
  sUni : Nat
  bidi : Nat
  uni : Nat
  ackD : Nat
  cidL : Nat
  has : Bool
  tok : List UInt8

def zTok : List UInt8 := List.replicate 16 0
def zQ : PQ := ⟨[], [], 0, 0, 0, 0, 0, 0, 0, 0, 0, false, zTok⟩

/-- The number that a parameter is told by. -/
def PQ.num (p : PQ) (id : Nat) : Nat :=
  if id = 1 then p.idle else if id = 4 then p.data else if id = 5 then p.sOwn else if id = 6 then p.sPeer else if id = 7 then p.sUni else
  if id = 8 then p.bidi else if id = 9 then p.uni else if id = 11 then p.ackD else if id = 14 then p.cidL else 0

def PQ.setNum (p : PQ) (id n : Nat) : PQ :=
  if id = 1 then { p with idle := n } else if id = 4 then { p with data := n } else if id = 5 then { p with sOwn := n } else if id = 6 then { p with sPeer := n } else
  if id = 7 then { p with sUni := n } else if id = 8 then { p with bidi := n } else if id = 9 then { p with uni := n } else if id = 11 then { p with ackD := n } else
  if id = 14 then { p with cidL := n } else p

/-- Where a parameter with a number stands in the struct; 0: it has none. -/
def nIdx (id : Nat) : Nat :=
  if id = 1 then 2 else if id = 4 then 3 else if id = 5 then 4 else if id = 6 then 5 else if id = 7 then 6 else
  if id = 8 then 7 else if id = 9 then 8 else if id = 11 then 9 else if id = 14 then 10 else 0

/-- May n be told as this parameter? -/
def fitsB (id n : Nat) : Bool :=
  if id = 8 ∨ id = 9 then decide (n ≤ 1152921504606846976) else if id = 11 then decide (n ≤ 16383) else
  if id = 14 then decide (2 ≤ n) && decide (n ≤ 4611686018427387903) else decide (n ≤ 4611686018427387903)

theorem nIdx_cases (id : Nat) : (id = 1 ∨ id = 4 ∨ id = 5 ∨ id = 6 ∨ id = 7 ∨ id = 8 ∨ id = 9 ∨ id = 11 ∨ id = 14) ∨
    (id ≠ 1 ∧ id ≠ 4 ∧ id ≠ 5 ∧ id ≠ 6 ∧ id ≠ 7 ∧ id ≠ 8 ∧ id ≠ 9 ∧ id ≠ 11 ∧ id ≠ 14 ∧ nIdx id = 0) := by
  by_cases h : id = 1 ∨ id = 4 ∨ id = 5 ∨ id = 6 ∨ id = 7 ∨ id = 8 ∨ id = 9 ∨ id = 11 ∨ id = 14
  · exact .inl h
  · refine .inr ⟨by omega, by omega, by omega, by omega, by omega, by omega, by omega, by omega, by omega, ?_⟩
    unfold nIdx
    rw [if_neg (by omega), if_neg (by omega), if_neg (by omega), if_neg (by omega), if_neg (by omega), if_neg (by omega), if_neg (by omega), if_neg (by omega), if_neg (by omega)]

theorem fits_le {id n : Nat} (h : fitsB id n = true) : n ≤ 4611686018427387903 := by
  unfold fitsB at h
  split at h
  · have := of_decide_eq_true h; omega
  · split at h
    · have := of_decide_eq_true h; omega
    · split at h
      · rw [Bool.and_eq_true] at h; exact of_decide_eq_true h.2
      · exact of_decide_eq_true h

/-- The parameter's number may be told, or is not. -/
def okNum (p : PQ) (id : Nat) : Bool := decide (nIdx id = 0) || decide (p.num id = 0) || fitsB id (p.num id)
def okId (p : PQ) (id : Nat) : Bool := if id = 0 then decide (p.orig.length ≤ 20) else if id = 15 then decide (p.cid.length ≤ 20) else true

/-- All up to id may be. -/
def okTo (p : PQ) : Nat → Bool
  | 0 => true
  | k + 1 => okTo p k && (okNum p k && okId p k)

def mayQ (p : PQ) : Bool := (p.has || decide (p.tok = zTok)) && okTo p 16

theorem okTo_mono {p : PQ} {k : Nat} (h : okTo p k = true) : ∀ j, j < k → okNum p j = true ∧ okId p j = true := by
  induction k with
  | zero => intro j hj; omega
  | succ k ih =>
    intro j hj
    unfold okTo at h
    rw [Bool.and_eq_true, Bool.and_eq_true] at h
    by_cases e : j = k
    · subst e; exact h.2
    · exact ih h.1 j (by omega)

theorem okTo_of {p : PQ} {k : Nat} (h : ∀ j, j < k → okNum p j = true ∧ okId p j = true) : okTo p k = true := by
  induction k with
  | zero => rfl
  | succ k ih =>
    unfold okTo
    rw [ih (fun j hj => h j (by omega)), (h k (by omega)).1, (h k (by omega)).2]
    rfl

/-- The value by which a parameter is told; none: it is not told. -/
def valQ (p : PQ) (id : Nat) : List UInt8 :=
  if id = 2 then (if p.has then p.tok else []) else if nIdx id ≠ 0 then (if p.num id = 0 then [] else enc (p.num id)) else if id = 0 then p.orig else if id = 15 then p.cid else []

def partQ (id : Nat) (v : List UInt8) : List UInt8 := enc id ++ (enc v.length ++ v)

def toldQ (p : PQ) : Nat → List UInt8
  | 0 => []
  | k + 1 => toldQ p k ++ if valQ p k = [] then [] else partQ k (valQ p k)

def bytesQ (p : PQ) : List UInt8 := toldQ p 16

/-- A value told. -/
def setQ (p : PQ) (id : Nat) (v : List UInt8) : Option PQ :=
  if id = 2 then (if v.length = 16 then some { p with has := true, tok := v } else none)
  else if nIdx id ≠ 0 then
    match tk v with
    | none => none
    | some (n, k) => if k = v.length ∧ fitsB id n = true then some (p.setNum id n) else none
  else if id = 0 then (if v = [] then some p else if v.length ≤ 20 then some { p with orig := v } else none)
  else if id = 15 then (if v = [] then some p else if v.length ≤ 20 then some { p with cid := v } else none)
  else some p

/-- One parameter: its number, its value, how many bytes all are. -/
def oneQ (l : List UInt8) : Option (Nat × List UInt8 × Nat) :=
  match tk l with
  | none => none
  | some (id, a) =>
    match tk (l.drop a) with
    | none => none
    | some (n, k) => if n ≤ (l.drop a).length - k then some (id, ((l.drop a).drop k).take n, a + (k + n)) else none

def goQ : Nat → List UInt8 → List Nat → PQ → Option PQ
  | 0, _, _, _ => none
  | f + 1, l, st, p =>
    if l = [] then some p else
    match oneQ l with
    | none => none
    | some (id, v, used) =>
      if id ∈ st then none else
      match setQ p id v with
      | none => none
      | some q => goQ f (l.drop used) (id :: st) q

def takeQ (l : List UInt8) : Option PQ := goQ (l.length + 1) l [] zQ

theorem tk_le {l : List UInt8} {n k : Nat} (h : tk l = some (n, k)) : 1 ≤ k ∧ k ≤ l.length := by
  obtain ⟨x, t, rfl, rfl, h1, _⟩ := tk_some h
  exact ⟨cls_pos x, by simpa using h1⟩

theorem oneQ_used {l v : List UInt8} {id used : Nat} (h : oneQ l = some (id, v, used)) : 1 ≤ used ∧ used ≤ l.length ∧ szN id + szN v.length + v.length ≤ used ∧ id ≤ 4611686018427387903 ∧ v.length ≤ 4611686018427387903 := by
  unfold oneQ at h
  split at h
  · cases h
  · rename_i i a ht
    split at h
    · cases h
    · rename_i n k hk
      split at h
      · rename_i hn
        simp only [Option.some.injEq, Prod.mk.injEq] at h
        obtain ⟨rfl, rfl, rfl⟩ := h
        have h1 := tk_le ht
        have h2 := tk_le hk
        have h3 := tk_shortest ht
        have h4 := tk_shortest hk
        rw [List.length_drop] at h2 hn
        have hv : (((l.drop a).drop k).take n).length = n := by rw [List.length_take, List.length_drop, List.length_drop]; omega
        rw [hv]
        omega
      · cases h

/-- More fuel makes no difference. -/
theorem goQ_fuel : ∀ (f : Nat) (l : List UInt8) (st : List Nat) (p : PQ) (g : Nat), l.length < f → l.length < g → goQ f l st p = goQ g l st p := by
  intro f
  induction f with
  | zero => intro l st p g h; omega
  | succ f ih =>
    intro l st p g hf hg
    cases g with
    | zero => omega
    | succ g =>
      unfold goQ
      split
      · rfl
      · split
        · rfl
        · rename_i id v used ho
          have hu := oneQ_used ho
          split
          · rfl
          · split
            · rfl
            · exact ih _ _ _ _ (by rw [List.length_drop]; omega) (by rw [List.length_drop]; omega)

theorem goQ_nil (f : Nat) (st : List Nat) (p : PQ) : goQ (f + 1) [] st p = some p := by unfold goQ; rw [if_pos rfl]

theorem goQ_step {l v : List UInt8} {id used : Nat} (ho : oneQ l = some (id, v, used)) (f : Nat) (st : List Nat) (p : PQ) (hf : l.length < f) :
    goQ f l st p = if id ∈ st then none else (setQ p id v).bind fun q => goQ f (l.drop used) (id :: st) q := by
  have hu := oneQ_used ho
  obtain ⟨g, rfl⟩ : ∃ g, f = g + 1 := ⟨f - 1, by omega⟩
  conv => lhs; unfold goQ
  rw [if_neg (by rintro rfl; simp at hu; omega), ho]
  simp only
  split
  · rfl
  · cases hs : setQ p id v with
    | none => rfl
    | some q =>
      simp only [Option.bind_some]
      exact goQ_fuel _ _ _ _ _ (by rw [List.length_drop]; omega) (by rw [List.length_drop]; omega)

theorem oneQ_part {id : Nat} {v r : List UInt8} (h1 : id ≤ 4611686018427387903) (h2 : v.length ≤ 4611686018427387903) : oneQ (partQ id v ++ r) = some (id, v, (partQ id v).length) := by
  have e1 : partQ id v ++ r = enc id ++ (enc v.length ++ (v ++ r)) := by unfold partQ; simp
  have e2 : (enc id ++ (enc v.length ++ (v ++ r))).drop (szN id) = enc v.length ++ (v ++ r) := List.drop_left' (enc_length id)
  have e3 : (enc v.length ++ (v ++ r)).drop (szN v.length) = v ++ r := List.drop_left' (enc_length _)
  unfold oneQ
  rw [e1, tk_enc h1]
  simp only
  rw [e2, tk_enc h2]
  simp only
  rw [if_pos (by simp only [List.length_append, enc_length]; omega), e3, List.take_left' rfl]
  unfold partQ
  simp only [List.length_append, enc_length]

theorem goQ_part {id : Nat} {v r : List UInt8} (h1 : id ≤ 4611686018427387903) (h2 : v.length ≤ 4611686018427387903) (f : Nat) (st : List Nat) (p : PQ) (hf : (partQ id v ++ r).length < f) :
    goQ f (partQ id v ++ r) st p = if id ∈ st then none else (setQ p id v).bind fun q => goQ f r (id :: st) q := by
  rw [goQ_step (oneQ_part h1 h2) f st p hf, List.drop_left' rfl]

end Go.Proofs.YtpnpbjdkldmmdaaDoor
