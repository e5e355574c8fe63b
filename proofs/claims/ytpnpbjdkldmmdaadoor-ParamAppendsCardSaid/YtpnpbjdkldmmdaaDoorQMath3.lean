/-
  Transport parameters: what is taken may be, and is told in at most as many bytes. No program is named here.
-/
import Derived.Test.YtpnpbjdkldmmdaaDoorQMath2
namespace Go.Proofs.YtpnpbjdkldmmdaaDoor
set_option linter.unusedVariables false

theorem num_set (p : PQ) (id n j : Nat) : (p.setNum id n).num j = if j = id ∧ nIdx id ≠ 0 then n else p.num j := by
  rcases nIdx_cases id with h | ⟨h1, h2, h3, h4, h5, h6, h7, h8, h9, h10⟩
  · rcases h with rfl | rfl | rfl | rfl | rfl | rfl | rfl | rfl | rfl
    · by_cases hj : j = 1
      · subst hj; simp [PQ.num, PQ.setNum, nIdx]
      · simp [PQ.num, PQ.setNum, nIdx, hj]
    · by_cases hj : j = 4
      · subst hj; simp [PQ.num, PQ.setNum, nIdx]
      · simp [PQ.num, PQ.setNum, nIdx, hj]
    · by_cases hj : j = 5
      · subst hj; simp [PQ.num, PQ.setNum, nIdx]
      · simp [PQ.num, PQ.setNum, nIdx, hj]
    · by_cases hj : j = 6
      · subst hj; simp [PQ.num, PQ.setNum, nIdx]
      · simp [PQ.num, PQ.setNum, nIdx, hj]
    · by_cases hj : j = 7
      · subst hj; simp [PQ.num, PQ.setNum, nIdx]
      · simp [PQ.num, PQ.setNum, nIdx, hj]
    · by_cases hj : j = 8
      · subst hj; simp [PQ.num, PQ.setNum, nIdx]
      · simp [PQ.num, PQ.setNum, nIdx, hj]
    · by_cases hj : j = 9
      · subst hj; simp [PQ.num, PQ.setNum, nIdx]
      · simp [PQ.num, PQ.setNum, nIdx, hj]
    · by_cases hj : j = 11
      · subst hj; simp [PQ.num, PQ.setNum, nIdx]
      · simp [PQ.num, PQ.setNum, nIdx, hj]
    · by_cases hj : j = 14
      · subst hj; simp [PQ.num, PQ.setNum, nIdx]
      · simp [PQ.num, PQ.setNum, nIdx, hj]
  · rw [if_neg (fun e => e.2 h10)]
    unfold PQ.setNum
    rw [if_neg h1, if_neg h2, if_neg h3, if_neg h4, if_neg h5, if_neg h6, if_neg h7, if_neg h8, if_neg h9]

theorem set_rest (p : PQ) (id n : Nat) : (p.setNum id n).orig = p.orig ∧ (p.setNum id n).cid = p.cid ∧ (p.setNum id n).has = p.has ∧ (p.setNum id n).tok = p.tok := by
  unfold PQ.setNum
  repeat' split
  all_goals exact ⟨rfl, rfl, rfl, rfl⟩

theorem szN_mono {a b : Nat} (h : a ≤ b) (hb : b ≤ 4611686018427387903) : szN a ≤ szN b := by
  have h1 := szN_cases a
  have h2 := szN_cases b
  omega

/-- What a value that is told does. -/
theorem set_val {p q : PQ} {id : Nat} {v : List UInt8} (h : setQ p id v = some q) :
    (∀ j, j ≠ id → valQ q j = valQ p j) ∧ (valQ q id = valQ p id ∨ (valQ q id).length ≤ v.length) ∧ (q.has = true ∨ (q.has = p.has ∧ q.tok = p.tok)) ∧ (q.tok.length = 16 ∨ q.tok = p.tok) ∧
    (∀ j, okNum q j = true ∨ okNum q j = okNum p j) ∧ (∀ j, okId q j = true ∨ okId q j = okId p j) := by
  unfold setQ at h
  split at h
  · rename_i e
    subst e
    split at h
    · rename_i hl
      obtain rfl := Option.some.inj h
      refine ⟨fun j hj => ?_, .inr ?_, .inl rfl, .inl hl, fun j => .inr ?_, fun j => .inr rfl⟩
      · unfold valQ; rw [if_neg hj, if_neg hj]; rfl
      · unfold valQ; simp
      · rfl
    · cases h
  · rename_i h2
    split at h
    · rename_i hn
      split at h
      · cases h
      · rename_i n k ht
        split at h
        · rename_i hk
          obtain rfl := Option.some.inj h
          obtain ⟨r1, r2, r3, r4⟩ := set_rest p id n
          refine ⟨fun j hj => ?_, .inr ?_, .inr ⟨r3, r4⟩, .inr r4, fun j => ?_, fun j => .inr ?_⟩
          · have hnum : (p.setNum id n).num j = p.num j := by rw [num_set, if_neg (fun e => hj e.1)]
            unfold valQ; rw [hnum, r1, r2, r3, r4]
          · have hnum : (p.setNum id n).num id = n := by rw [num_set, if_pos ⟨rfl, hn⟩]
            rw [valQ_num h2 hn, hnum]
            split
            · simp
            · rw [enc_length, ← hk.1]; exact (tk_shortest ht).1
          · unfold okNum
            rw [num_set]
            by_cases e : j = id ∧ nIdx id ≠ 0
            · rw [if_pos e, e.1]
              exact .inl (by rw [hk.2]; simp)
            · rw [if_neg e]; exact .inr rfl
          · unfold okId; rw [r1, r2]
        · cases h
    · rename_i hn
      split at h
      · rename_i e
        subst e
        split at h
        · obtain rfl := Option.some.inj h
          exact ⟨fun _ _ => rfl, .inl rfl, .inr ⟨rfl, rfl⟩, .inr rfl, fun _ => .inr rfl, fun _ => .inr rfl⟩
        · split at h
          · rename_i hl
            obtain rfl := Option.some.inj h
            refine ⟨fun j hj => ?_, .inr ?_, .inr ⟨rfl, rfl⟩, .inr rfl, fun j => .inr rfl, fun j => ?_⟩
            · unfold valQ; rw [if_neg hj, if_neg hj]; rfl
            · simp [valQ, nIdx]
            · unfold okId
              by_cases e : j = 0
              · rw [if_pos e]; exact .inl (decide_eq_true hl)
              · rw [if_neg e, if_neg e]; exact .inr rfl
          · cases h
      · rename_i h0
        split at h
        · rename_i e
          subst e
          split at h
          · obtain rfl := Option.some.inj h
            exact ⟨fun _ _ => rfl, .inl rfl, .inr ⟨rfl, rfl⟩, .inr rfl, fun _ => .inr rfl, fun _ => .inr rfl⟩
          · split at h
            · rename_i hl
              obtain rfl := Option.some.inj h
              refine ⟨fun j hj => ?_, .inr ?_, .inr ⟨rfl, rfl⟩, .inr rfl, fun j => .inr rfl, fun j => ?_⟩
              · unfold valQ; rw [if_neg hj, if_neg hj]; rfl
              · simp [valQ, nIdx]
              · unfold okId
                by_cases e : j = 0
                · rw [if_pos e, if_pos e]; exact .inr rfl
                · rw [if_neg e]
                  by_cases e' : j = 15
                  · rw [if_pos e']; exact .inl (decide_eq_true hl)
                  · rw [if_neg e', if_neg e, if_neg e']; exact .inl rfl
            · cases h
        · obtain rfl := Option.some.inj h
          exact ⟨fun _ _ => rfl, .inl rfl, .inr ⟨rfl, rfl⟩, .inr rfl, fun _ => .inr rfl, fun _ => .inr rfl⟩

theorem part_len (id : Nat) (v : List UInt8) : (partQ id v).length = szN id + (szN v.length + v.length) := by
  unfold partQ
  simp only [List.length_append, enc_length]

theorem told_len {p q : PQ} {id : Nat} {v : List UInt8} (hv : v.length ≤ 4611686018427387903) (h1 : ∀ j, j ≠ id → valQ q j = valQ p j) (h2 : valQ q id = valQ p id ∨ (valQ q id).length ≤ v.length) :
    ∀ k, (toldQ q k).length ≤ (toldQ p k).length + (if id < k then szN id + (szN v.length + v.length) else 0) := by
  intro k
  induction k with
  | zero => simp [toldQ]
  | succ k ih =>
    unfold toldQ
    rw [List.length_append, List.length_append]
    by_cases e : k = id
    · subst e
      rw [if_neg (Nat.lt_irrefl k)] at ih
      rw [if_pos (Nat.lt_succ_self k)]
      rcases h2 with h2 | h2
      · rw [h2]; omega
      · have : (if valQ q k = [] then [] else partQ k (valQ q k) : List UInt8).length ≤ szN k + (szN v.length + v.length) := by
          split
          · simp
          · rw [part_len]
            have := szN_mono h2 hv
            omega
        omega
    · rw [h1 k e]
      have : (if id < k then szN id + (szN v.length + v.length) else 0) ≤ (if id < k + 1 then szN id + (szN v.length + v.length) else 0) := by
        split
        · rw [if_pos (by omega)]; omega
        · omega
      omega

theorem go_may : ∀ (f : Nat) (l : List UInt8) (st : List Nat) (p q : PQ), l.length < f → goQ f l st p = some q → mayQ p = true → p.tok.length = 16 →
    mayQ q = true ∧ q.tok.length = 16 ∧ (bytesQ q).length ≤ (bytesQ p).length + l.length := by
  intro f
  induction f with
  | zero => intro l st p q h; omega
  | succ f ih =>
    intro l st p q hf hg hm ht
    by_cases hl : l = []
    · subst hl
      rw [goQ_nil] at hg
      obtain rfl := Option.some.inj hg
      exact ⟨hm, ht, by simp⟩
    · cases ho : oneQ l with
      | none =>
        unfold goQ at hg
        rw [if_neg hl, ho] at hg
        cases hg
      | some x =>
        obtain ⟨id, v, used⟩ := x
        obtain ⟨u1, u2, u3, u4, u5⟩ := oneQ_used ho
        rw [goQ_step ho _ _ _ hf] at hg
        split at hg
        · cases hg
        · cases hs : setQ p id v with
          | none => rw [hs] at hg; cases hg
          | some p' =>
            rw [hs] at hg
            simp only [Option.bind_some] at hg
            obtain ⟨s1, s2, s3, s4, s5, s6⟩ := set_val hs
            have hlen := told_len u5 s1 s2 16
            have hm' : mayQ p' = true := by
              unfold mayQ at hm ⊢
              rw [Bool.and_eq_true, Bool.or_eq_true] at hm ⊢
              refine ⟨?_, okTo_of fun j hj => ⟨?_, ?_⟩⟩
              · rcases s3 with h | ⟨h, h'⟩
                · exact .inl h
                · rw [h, h']; exact hm.1
              · rcases s5 j with h | h
                · exact h
                · rw [h]; exact (okTo_mono hm.2 j hj).1
              · rcases s6 j with h | h
                · exact h
                · rw [h]; exact (okTo_mono hm.2 j hj).2
            have ht' : p'.tok.length = 16 := by
              rcases s4 with h | h
              · exact h
              · rw [h]; exact ht
            have hdl : (l.drop used).length < f := by rw [List.length_drop]; omega
            have hg' : goQ f (l.drop used) (id :: st) p' = some q := by
              rw [← goQ_fuel (f + 1) _ _ _ f (by omega) hdl]; exact hg
            obtain ⟨a, b, c⟩ := ih _ _ _ _ hdl hg' hm' ht'
            refine ⟨a, b, ?_⟩
            rw [List.length_drop] at c
            have hb : (bytesQ p').length ≤ (bytesQ p).length + used := by
              unfold bytesQ
              have : (if id < 16 then szN id + (szN v.length + v.length) else 0) ≤ used := by split <;> omega
              omega
            omega

theorem may_z : mayQ zQ = true := by decide

theorem take_may {l : List UInt8} {q : PQ} (h : takeQ l = some q) : mayQ q = true ∧ q.tok.length = 16 ∧ (bytesQ q).length ≤ l.length := by
  obtain ⟨a, b, c⟩ := go_may (l.length + 1) l [] zQ q (by omega) h may_z (by decide)
  refine ⟨a, b, ?_⟩
  have : (bytesQ zQ).length = 0 := by decide
  omega

theorem told_max {p : PQ} (hm : mayQ p = true) (ht : p.tok.length = 16) : ∀ k, (toldQ p k).length ≤ 40 * k := by
  intro k
  induction k with
  | zero => simp [toldQ]
  | succ k ih =>
    unfold toldQ
    rw [List.length_append]
    have : (if valQ p k = [] then [] else partQ k (valQ p k) : List UInt8).length ≤ 40 := by
      split
      · simp
      · rw [part_len]
        have h1 := val_short hm ht k
        have h2 := szN_le k
        have h3 := szN_le (valQ p k).length
        omega
    omega

end Go.Proofs.YtpnpbjdkldmmdaaDoor
