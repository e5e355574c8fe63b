/-
  Transport parameters: what follows of their definitions. No program is named here.
-/
import Derived.Test.YtpnpbjdkldmmdaaDoorQMath
namespace Go.Proofs.YtpnpbjdkldmmdaaDoor
set_option linter.unusedVariables false

/-- The parameters up to a number; the others are zero. -/
def restr (p : PQ) (k : Nat) : PQ :=
  ⟨if 0 < k then p.orig else [], if 15 < k then p.cid else [], if 1 < k then p.idle else 0, if 4 < k then p.data else 0, if 5 < k then p.sOwn else 0, if 6 < k then p.sPeer else 0, if 7 < k then p.sUni else 0,
   if 8 < k then p.bidi else 0, if 9 < k then p.uni else 0, if 11 < k then p.ackD else 0, if 14 < k then p.cidL else 0, if 2 < k then p.has else false, if 2 < k then p.tok else zTok⟩

theorem restr_0 (p : PQ) : restr p 0 = zQ := by simp [restr, zQ]
theorem restr_16 (p : PQ) : restr p 16 = p := by simp [restr]

theorem tk_all {n : Nat} (h : n ≤ 4611686018427387903) : tk (enc n) = some (n, szN n) := by
  have := tk_enc h []
  rwa [List.append_nil] at this

theorem valQ_num {p : PQ} {id : Nat} (h2 : id ≠ 2) (h : nIdx id ≠ 0) : valQ p id = if p.num id = 0 then [] else enc (p.num id) := by unfold valQ; rw [if_neg h2, if_pos h]

theorem enc_ne {n : Nat} (h : n ≤ 4611686018427387903) : enc n ≠ [] := fun e => by
  have h1 := enc_length n
  have h2 := szN_pos h
  rw [e] at h1
  simp at h1
  omega

theorem step_num {p : PQ} {k : Nat} (h2 : k ≠ 2) (hn : nIdx k ≠ 0) (h1 : okNum p k = true) (hz : p.num k = 0 → restr p (k + 1) = restr p k) (hs : (restr p k).setNum k (p.num k) = restr p (k + 1)) :
    (valQ p k = [] → restr p (k + 1) = restr p k) ∧ (valQ p k ≠ [] → setQ (restr p k) k (valQ p k) = some (restr p (k + 1)) ∧ (valQ p k).length ≤ 20) := by
  rw [valQ_num h2 hn]
  unfold okNum at h1
  rw [Bool.or_eq_true, Bool.or_eq_true, decide_eq_true_eq, decide_eq_true_eq] at h1
  by_cases hz0 : p.num k = 0
  · rw [if_pos hz0]
    exact ⟨fun _ => hz hz0, fun e => absurd rfl e⟩
  · have hf : fitsB k (p.num k) = true := by
      rcases h1 with (h | h) | h
      · exact absurd h hn
      · exact absurd h hz0
      · exact h
    have hle := fits_le hf
    rw [if_neg hz0]
    refine ⟨fun e => absurd e (enc_ne hle), fun _ => ⟨?_, by rw [enc_length]; have := szN_le (p.num k); omega⟩⟩
    unfold setQ
    rw [if_neg h2, if_pos hn, tk_all hle]
    simp only
    rw [enc_length, if_pos ⟨rfl, hf⟩, hs]

/-- One step: the parameter k is told, or it is zero. -/
theorem restr_step {p : PQ} (hm : mayQ p = true) (ht : p.tok.length = 16) (k : Nat) (hk : k < 16) :
    (valQ p k = [] → restr p (k + 1) = restr p k) ∧ (valQ p k ≠ [] → setQ (restr p k) k (valQ p k) = some (restr p (k + 1)) ∧ (valQ p k).length ≤ 20) := by
  unfold mayQ at hm
  rw [Bool.and_eq_true, Bool.or_eq_true] at hm
  obtain ⟨h1, h2⟩ := okTo_mono hm.2 k hk
  have htok := hm.1
  have ck : k = 0 ∨ k = 1 ∨ k = 2 ∨ k = 3 ∨ k = 4 ∨ k = 5 ∨ k = 6 ∨ k = 7 ∨ k = 8 ∨ k = 9 ∨ k = 10 ∨ k = 11 ∨ k = 12 ∨ k = 13 ∨ k = 14 ∨ k = 15 := by omega
  have num : ∀ n : Nat, n ≠ 0 → n ≤ 4611686018427387903 → enc n ≠ [] ∧ (enc n).length ≤ 20 := fun n h h' => by
    have e1 := enc_length n
    have e2 := szN_pos h'
    have e3 := szN_le n
    exact ⟨fun e => by rw [e] at e1; simp at e1; omega, by omega⟩
  rcases ck with rfl | rfl | rfl | rfl | rfl | rfl | rfl | rfl | rfl | rfl | rfl | rfl | rfl | rfl | rfl | rfl
  case inl =>
    have h2' : p.orig.length ≤ 20 := by simpa [okId] using h2
    refine ⟨fun e => ?_, fun e => ?_⟩
    · have e' : p.orig = [] := by simpa [valQ, nIdx] using e
      simp [restr, e']
    · have e' : p.orig ≠ [] := by simpa [valQ, nIdx] using e
      simp [valQ, nIdx, setQ, restr, e', h2']
  case inr.inr.inr.inr.inr.inr.inr.inr.inr.inr.inr.inr.inr.inr.inr =>
    have h2' : p.cid.length ≤ 20 := by simpa [okId] using h2
    refine ⟨fun e => ?_, fun e => ?_⟩
    · have e' : p.cid = [] := by simpa [valQ, nIdx] using e
      simp [restr, e']
    · have e' : p.cid ≠ [] := by simpa [valQ, nIdx] using e
      simp [valQ, nIdx, setQ, restr, e', h2']
  case inr.inr.inl =>
    cases hh : p.has
    · rw [hh] at htok
      have e' : p.tok = zTok := by simpa using htok
      exact ⟨fun _ => by simp [restr, hh, e'], fun e => absurd (by simp [valQ, hh]) e⟩
    · have hv : valQ p 2 = p.tok := by simp [valQ, hh]
      refine ⟨fun e => ?_, fun e => ?_⟩
      · rw [hv] at e; rw [e] at ht; simp at ht
      · rw [hv]
        exact ⟨by simp [setQ, restr, ht, hh], by omega⟩
  case inr.inr.inr.inl => exact ⟨fun _ => by simp [restr], fun e => absurd (by simp [valQ, nIdx]) e⟩
  case inr.inr.inr.inr.inr.inr.inr.inr.inr.inr.inl => exact ⟨fun _ => by simp [restr], fun e => absurd (by simp [valQ, nIdx]) e⟩
  case inr.inr.inr.inr.inr.inr.inr.inr.inr.inr.inr.inr.inl => exact ⟨fun _ => by simp [restr], fun e => absurd (by simp [valQ, nIdx]) e⟩
  case inr.inr.inr.inr.inr.inr.inr.inr.inr.inr.inr.inr.inr.inl => exact ⟨fun _ => by simp [restr], fun e => absurd (by simp [valQ, nIdx]) e⟩
  all_goals exact step_num (by decide) (by decide) h1 (by intro e; simp [PQ.num] at e; simp [restr, e]) (by simp [PQ.setNum, restr, PQ.num])

theorem nIdx_off {k : Nat} (h : 16 ≤ k) : nIdx k = 0 := by
  rcases nIdx_cases k with h1 | h1
  · omega
  · exact h1.2.2.2.2.2.2.2.2.2

theorem valQ_off {p : PQ} {k : Nat} (h : 16 ≤ k) : valQ p k = [] := by
  unfold valQ
  rw [if_neg (by omega), if_neg (fun e => e (nIdx_off h)), if_neg (by omega), if_neg (by omega)]

/-- Numbers that stand are of those up to k, or that one. -/
def Stood (st : List Nat) (k : Nat) (x : Nat → Prop) : Prop := ∀ j, j ∈ st → j < k ∨ x j

/-- What is told up to k is taken, whatever stands behind. -/
theorem go_told {p : PQ} (hm : mayQ p = true) (ht : p.tok.length = 16) (x : Nat → Prop) (hx : ∀ j, x j → 16 ≤ j) (st0 : List Nat) (h0 : Stood st0 0 x) (r : List UInt8) (f : Nat) :
    ∀ k, k ≤ 16 → (toldQ p k ++ r).length < f → ∃ st, Stood st k x ∧ (∀ j, j ∈ st0 → j ∈ st) ∧ (∀ j, j < k → valQ p j ≠ [] → j ∈ st) ∧ goQ f (toldQ p k ++ r) st0 zQ = goQ f r st (restr p k) := by
  intro k
  induction k generalizing r with
  | zero =>
    intro _ _
    exact ⟨st0, h0, fun _ h => h, fun j hj => by omega, by rw [restr_0]; rfl⟩
  | succ k ih =>
    intro hk hf
    obtain ⟨s1, s2⟩ := restr_step hm ht k (by omega)
    by_cases hv : valQ p k = []
    · have e : toldQ p (k + 1) = toldQ p k := by unfold toldQ; rw [if_pos hv, List.append_nil]; cases k <;> rfl
      rw [e] at hf ⊢
      obtain ⟨st, a, b, c, d⟩ := ih r (by omega) hf
      refine ⟨st, fun j hj => (a j hj).imp (fun h => by omega) id, b, fun j hj hne => ?_, by rw [d, s1 hv]⟩
      by_cases ej : j = k
      · subst ej; exact absurd hv hne
      · exact c j (by omega) hne
    · have e : toldQ p (k + 1) ++ r = toldQ p k ++ (partQ k (valQ p k) ++ r) := by
        conv => lhs; unfold toldQ
        rw [if_neg hv, List.append_assoc]
      rw [e] at hf ⊢
      obtain ⟨st, a, b, c, d⟩ := ih (partQ k (valQ p k) ++ r) (by omega) hf
      have hns : k ∉ st := fun hj => by
        rcases a k hj with h | h
        · omega
        · have := hx k h; omega
      obtain ⟨s3, s4⟩ := s2 hv
      refine ⟨k :: st, fun j hj => ?_, fun j hj => List.mem_cons_of_mem _ (b j hj), fun j hj hne => ?_, ?_⟩
      · rcases List.mem_cons.1 hj with h | h
        · exact .inl (by omega)
        · exact (a j h).imp (fun h => by omega) id
      · by_cases ej : j = k
        · subst ej; exact List.mem_cons_self
        · exact List.mem_cons_of_mem _ (c j (by omega) hne)
      · rw [d, goQ_part (by omega) (by omega) f st _ (by rw [List.length_append] at hf; omega), if_neg hns, s3]
        rfl

theorem take_bytes {p : PQ} (hm : mayQ p = true) (ht : p.tok.length = 16) : takeQ (bytesQ p) = some p := by
  obtain ⟨st, _, _, _, h⟩ := go_told hm ht (fun _ => False) (fun _ h => h.elim) [] (fun j hj => by cases hj) [] ((bytesQ p).length + 1) 16 (by omega) (by unfold bytesQ; simp)
  rw [List.append_nil] at h
  unfold takeQ
  show goQ ((bytesQ p).length + 1) (toldQ p 16) [] zQ = _
  rw [h, goQ_nil, restr_16]

/-- The first one that is told. -/
theorem told_first {p : PQ} : ∀ k, toldQ p k ≠ [] → ∃ j, j < k ∧ valQ p j ≠ [] ∧ ∃ r, toldQ p k = partQ j (valQ p j) ++ r := by
  intro k
  induction k with
  | zero => intro h; exact absurd rfl h
  | succ k ih =>
    intro h
    by_cases h0 : toldQ p k = []
    · by_cases hv : valQ p k = []
      · exact absurd (by unfold toldQ; rw [h0, if_pos hv]; rfl) h
      · exact ⟨k, by omega, hv, [], by unfold toldQ; rw [h0, if_neg hv]; simp⟩
    · obtain ⟨j, hj, hv, r, e⟩ := ih h0
      exact ⟨j, by omega, hv, r ++ (if valQ p k = [] then [] else partQ k (valQ p k)), by rw [show toldQ p (k + 1) = toldQ p k ++ (if valQ p k = [] then [] else partQ k (valQ p k)) from rfl, e, List.append_assoc]⟩

theorem val_short {p : PQ} (hm : mayQ p = true) (ht : p.tok.length = 16) (k : Nat) : (valQ p k).length ≤ 20 := by
  by_cases hk : k < 16
  · by_cases hv : valQ p k = []
    · rw [hv]; simp
    · exact ((restr_step hm ht k hk).2 hv).2
  · rw [valQ_off (by omega)]; simp

theorem take_twice {p : PQ} (hm : mayQ p = true) (ht : p.tok.length = 16) (hne : bytesQ p ≠ []) : takeQ (bytesQ p ++ bytesQ p) = none := by
  obtain ⟨j, hj, hv, r, e⟩ := told_first 16 hne
  obtain ⟨st, _, _, c, h⟩ := go_told hm ht (fun _ => False) (fun _ h => h.elim) [] (fun j hj => by cases hj) (bytesQ p) ((bytesQ p ++ bytesQ p).length + 1) 16 (by omega) (by unfold bytesQ; omega)
  unfold takeQ
  rw [show goQ ((bytesQ p ++ bytesQ p).length + 1) (bytesQ p ++ bytesQ p) [] zQ = goQ ((bytesQ p ++ bytesQ p).length + 1) (toldQ p 16 ++ bytesQ p) [] zQ from rfl, h]
  have hs := val_short hm ht j
  have e' : bytesQ p = partQ j (valQ p j) ++ r := e
  have hl : (partQ j (valQ p j) ++ r).length < (bytesQ p ++ bytesQ p).length + 1 := by rw [← e', List.length_append]; omega
  conv => lhs; rw [show goQ ((bytesQ p ++ bytesQ p).length + 1) (bytesQ p) st (restr p 16) = goQ ((bytesQ p ++ bytesQ p).length + 1) (partQ j (valQ p j) ++ r) st (restr p 16) by rw [← e']]
  rw [goQ_part (by omega) (by omega) _ _ _ hl, if_pos (c j hj hv)]

/-- One that is left out. -/
theorem set_other {p : PQ} {id : Nat} {v : List UInt8} (h : 16 ≤ id) : setQ p id v = some p := by
  unfold setQ
  rw [if_neg (by omega), if_neg (fun e => e (nIdx_off h)), if_neg (by omega), if_neg (by omega)]

theorem take_behind {p : PQ} (hm : mayQ p = true) (ht : p.tok.length = 16) {id : Nat} {v : List UInt8} (h : 16 ≤ id) (h' : id ≤ 4611686018427387903) (hv : v.length ≤ 4611686018427387903) : takeQ (bytesQ p ++ partQ id v) = some p := by
  obtain ⟨st, a, _, _, e⟩ := go_told hm ht (fun _ => False) (fun _ h => h.elim) [] (fun j hj => by cases hj) (partQ id v) ((bytesQ p ++ partQ id v).length + 1) 16 (by omega) (by unfold bytesQ; omega)
  unfold takeQ
  rw [show goQ ((bytesQ p ++ partQ id v).length + 1) (bytesQ p ++ partQ id v) [] zQ = goQ ((bytesQ p ++ partQ id v).length + 1) (toldQ p 16 ++ partQ id v) [] zQ from rfl, e]
  have hg := goQ_part (r := []) h' hv ((bytesQ p ++ partQ id v).length + 1) st (restr p 16) (by simp; omega)
  rw [List.append_nil] at hg
  rw [hg, if_neg (fun hj => by rcases a id hj with h1 | h1; omega; exact h1), set_other h, restr_16]
  simp only [Option.bind_some]
  exact goQ_nil _ _ _

theorem take_ahead {p : PQ} (hm : mayQ p = true) (ht : p.tok.length = 16) {id : Nat} {v : List UInt8} (h : 16 ≤ id) (h' : id ≤ 4611686018427387903) (hv : v.length ≤ 4611686018427387903) : takeQ (partQ id v ++ bytesQ p) = some p := by
  unfold takeQ
  rw [goQ_part h' hv _ _ _ (by omega), if_neg (by simp), set_other h]
  simp only [Option.bind_some]
  obtain ⟨st, a, _, _, e⟩ := go_told hm ht (fun j => j = id) (fun j hj => by omega) [id] (fun j hj => .inr (by simpa using hj)) [] ((partQ id v ++ bytesQ p).length + 1) 16 (by omega) (by unfold bytesQ; simp; omega)
  rw [List.append_nil] at e
  rw [show goQ ((partQ id v ++ bytesQ p).length + 1) (bytesQ p) [id] zQ = goQ ((partQ id v ++ bytesQ p).length + 1) (toldQ p 16) [id] zQ from rfl, e, goQ_nil, restr_16]

theorem take_behind2 {p : PQ} (hm : mayQ p = true) (ht : p.tok.length = 16) {id : Nat} {v : List UInt8} (h : 16 ≤ id) (h' : id ≤ 4611686018427387903) (hv : v.length ≤ 4611686018427387903) : takeQ ((bytesQ p ++ partQ id v) ++ partQ id v) = none := by
  rw [List.append_assoc]
  obtain ⟨st, a, _, _, e⟩ := go_told hm ht (fun _ => False) (fun _ h => h.elim) [] (fun j hj => by cases hj) (partQ id v ++ partQ id v) ((bytesQ p ++ (partQ id v ++ partQ id v)).length + 1) 16 (by omega) (by unfold bytesQ; omega)
  unfold takeQ
  rw [show goQ ((bytesQ p ++ (partQ id v ++ partQ id v)).length + 1) (bytesQ p ++ (partQ id v ++ partQ id v)) [] zQ = goQ ((bytesQ p ++ (partQ id v ++ partQ id v)).length + 1) (toldQ p 16 ++ (partQ id v ++ partQ id v)) [] zQ from rfl, e]
  rw [goQ_part h' hv _ _ _ (by rw [List.length_append (as := bytesQ p)]; omega), if_neg (fun hj => by rcases a id hj with h1 | h1; omega; exact h1), set_other h]
  simp only [Option.bind_some]
  have hg := goQ_part (r := []) h' hv ((bytesQ p ++ (partQ id v ++ partQ id v)).length + 1) (id :: st) (restr p 16) (by simp; omega)
  rw [List.append_nil] at hg
  rw [hg, if_pos List.mem_cons_self]

theorem take_ahead2 {p : PQ} (hm : mayQ p = true) (ht : p.tok.length = 16) {id : Nat} {v : List UInt8} (h : 16 ≤ id) (h' : id ≤ 4611686018427387903) (hv : v.length ≤ 4611686018427387903) : takeQ ((partQ id v ++ bytesQ p) ++ partQ id v) = none := by
  rw [List.append_assoc]
  unfold takeQ
  rw [goQ_part h' hv _ _ _ (by omega), if_neg (by simp), set_other h]
  simp only [Option.bind_some]
  obtain ⟨st, a, b, _, e⟩ := go_told hm ht (fun j => j = id) (fun j hj => by omega) [id] (fun j hj => .inr (by simpa using hj)) (partQ id v) ((partQ id v ++ (bytesQ p ++ partQ id v)).length + 1) 16 (by omega) (by unfold bytesQ; simp; omega)
  rw [show goQ ((partQ id v ++ (bytesQ p ++ partQ id v)).length + 1) (bytesQ p ++ partQ id v) [id] zQ = goQ ((partQ id v ++ (bytesQ p ++ partQ id v)).length + 1) (toldQ p 16 ++ partQ id v) [id] zQ from rfl, e]
  have hg := goQ_part (r := []) h' hv ((partQ id v ++ (bytesQ p ++ partQ id v)).length + 1) st (restr p 16) (by simp; omega)
  rw [List.append_nil] at hg
  rw [hg, if_pos (b id (by simp))]

end Go.Proofs.YtpnpbjdkldmmdaaDoor
