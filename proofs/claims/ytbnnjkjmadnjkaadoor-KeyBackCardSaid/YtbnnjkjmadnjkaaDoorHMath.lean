/-
  Packets' heads in plain lists of bytes: a head's bytes, and what the reader's steps tell of them, whole or cut.
-/
import Derived.Test.YtbnnjkjmadnjkaaDoorSk23
import Derived.Lib.Strings
namespace Go.Proofs.YtbnnjkjmadnjkaaDoor
open Go.RowKit
set_option linter.unusedVariables false

theorem verB_iff (v : List UInt8) : verB v = true ↔ v = [0, 0, 0, 1] := by
  unfold verB
  rw [beq_iff_eq, Lib.toList_data]
  simp [strB]

/-- What stands between a long packet's first byte and its number. -/
def longB (sp : Nat) (dst src tok : List UInt8) (m : Nat) : List UInt8 :=
  [0, 0, 0, 1] ++ (UInt8.ofNat dst.length :: (dst ++ (UInt8.ofNat src.length :: (src ++ ((if sp = 0 then enc tok.length ++ tok else []) ++ enc m)))))

theorem takeS_at {l u r : List UInt8} {a : Nat} (h : l.drop a = u ++ r) : hTakeS l (some a) u.length = (u, some (a + u.length)) ∧ l.drop (a + u.length) = r := by
  have hl : l.length - a = u.length + r.length := by rw [← List.length_drop, h, List.length_append]
  unfold hTakeS
  simp only
  rw [if_pos (by omega), h, ← List.drop_drop, h]
  simp

theorem octS_at {l r : List UInt8} {x : UInt8} {a : Nat} (h : l.drop a = x :: r) : octS l (some a) = (x, some (a + 1)) ∧ l.drop (a + 1) = r := by
  have hx : l[a]? = some x := by
    have := List.getElem?_drop (xs := l) (i := a) (j := 0)
    rw [h] at this
    simpa using this.symm
  unfold octS
  simp only [hx]
  refine ⟨trivial, ?_⟩
  rw [← List.drop_drop, h]
  rfl

theorem numS_at {l r : List UInt8} {n a : Nat} (h : l.drop a = enc n ++ r) (hn : n ≤ 4611686018427387903) : numS l (some a) = (n, some (a + szN n)) ∧ l.drop (a + szN n) = r := by
  unfold numS
  simp only
  rw [h, tk_enc hn]
  refine ⟨rfl, ?_⟩
  rw [← List.drop_drop, h, ← enc_length]
  simp

theorem idS_at {l d r : List UInt8} {a : Nat} (h : l.drop a = UInt8.ofNat d.length :: (d ++ r)) (hd : d.length ≤ 20) : idS l (some a) = (d, some (a + 1 + d.length)) ∧ l.drop (a + 1 + d.length) = r := by
  obtain ⟨ho, hr⟩ := octS_at h
  have hx : (UInt8.ofNat d.length).toNat = d.length := by rw [UInt8.toNat_ofNat', Nat.mod_eq_of_lt (by omega)]
  have ht := takeS_at hr
  unfold idS
  rw [ho]
  simp only [hx]
  rw [show decide ((d.length : Int) ≤ 20) = true from decide_eq_true (by omega)]
  exact ht

/-- What the reader tells of a long packet's bytes. -/
theorem long_at {l r : List UInt8} {x : UInt8} {sp m : Nat} {dst src tok : List UInt8} (hl : l = x :: (longB sp dst src tok m ++ r)) (hsp : (sp = 0 ∧ x.toNat / 16 % 4 = 0) ∨ (sp = 1 ∧ x.toNat / 16 % 4 = 2 ∧ tok = []))
    (hd : dst.length ≤ 20) (hs : src.length ≤ 20) (ht : tok.length ≤ 1048576) (hm : m ≤ 4611686018427387903) :
    (spS x (some 1)).1 = sp ∧ (longD l x (some 1)).1 = dst ∧ (longR l x (some 1)).1 = src ∧ (longT l x (some 1)).1 = tok ∧ longN l x (some 1) = (m, some (1 + (longB sp dst src tok m).length)) := by
  have hspS : spS x (some 1) = (sp, some 1) := by
    unfold spS needS
    rcases hsp with ⟨rfl, h⟩ | ⟨rfl, h, _⟩ <;> rw [h] <;> rfl
  have hsp' : sp = 0 ∨ sp = 1 := by rcases hsp with ⟨h, _⟩ | ⟨h, _⟩ <;> simp [h]
  have h1 : l.drop 1 = [0, 0, 0, 1] ++ (UInt8.ofNat dst.length :: (dst ++ (UInt8.ofNat src.length :: (src ++ ((if sp = 0 then enc tok.length ++ tok else []) ++ (enc m ++ r)))))) := by
    subst hl
    simp [longB, List.append_assoc]
  obtain ⟨e1, h5⟩ := takeS_at h1
  have eD : longD l x (some 1) = (dst, some (6 + dst.length)) ∧ l.drop (6 + dst.length) = UInt8.ofNat src.length :: (src ++ ((if sp = 0 then enc tok.length ++ tok else []) ++ (enc m ++ r))) := by
    have hi := idS_at h5 hd
    unfold longD
    rw [hspS]
    have e1' : hTakeS l (some 1) 4 = ([0, 0, 0, 1], some 5) := e1
    simp only
    rw [e1']
    simp only
    rw [show verB [0, 0, 0, 1] = true from (verB_iff _).2 rfl]
    exact hi
  obtain ⟨eD, h6⟩ := eD
  obtain ⟨eR, h7⟩ := idS_at h6 hs
  have eR' : longR l x (some 1) = (src, some (6 + dst.length + 1 + src.length)) := by unfold longR; rw [eD]; exact eR
  refine ⟨by rw [hspS], by rw [eD], by rw [eR'], ?_⟩
  have hlen : (longB sp dst src tok m).length = 6 + dst.length + src.length + (if sp = 0 then enc tok.length ++ tok else []).length + szN m := by
    simp only [longB, List.length_append, List.length_cons, List.length_nil, enc_length]
    omega
  by_cases h0 : sp = 0
  · rw [if_pos h0] at h7 hlen
    rw [List.append_assoc] at h7
    obtain ⟨eN, h8⟩ := numS_at h7 (by omega)
    obtain ⟨eT, h9⟩ := takeS_at h8
    obtain ⟨eM, _⟩ := numS_at h9 hm
    have eT' : longT l x (some 1) = (tok, some (6 + dst.length + 1 + src.length + szN tok.length + tok.length)) := by
      unfold longT
      rw [hspS, if_pos (by exact h0), eR']
      simp only
      rw [eN]
      exact eT
    refine ⟨by rw [eT'], ?_⟩
    unfold longN
    rw [eT']
    simp only
    rw [eM, hlen, List.length_append, enc_length]
    congr 2
    omega
  · rw [if_neg h0] at h7 hlen
    rw [List.nil_append] at h7
    obtain ⟨eM, _⟩ := numS_at h7 hm
    have htok : tok = [] := by
      rcases hsp with ⟨h, _⟩ | ⟨_, _, h⟩
      · exact absurd h h0
      · exact h
    have eT' : longT l x (some 1) = ([], some (6 + dst.length + 1 + src.length)) := by
      unfold longT
      rw [hspS, if_neg (by exact h0), eR']
    refine ⟨by rw [eT', htok], ?_⟩
    unfold longN
    rw [eT']
    simp only
    rw [eM, hlen]
    congr 2
    simp
    omega

/-- The steps over fewer bytes, where they go on, tell the same as over more. -/
theorem takeS_pre {l : List UInt8} {c : Nat} {s : Option Nat} {n a : Nat} (h : (hTakeS (l.take c) s n).2 = some a) : hTakeS l s n = hTakeS (l.take c) s n := by
  obtain ⟨b, rfl, hn, ha⟩ := takeS_some h
  rw [List.length_take] at hn
  unfold hTakeS
  simp only
  rw [if_pos (by omega), if_pos (by rw [List.length_take]; omega), List.drop_take, List.take_take, Nat.min_eq_left (by omega)]

theorem octS_pre {l : List UInt8} {c : Nat} {s : Option Nat} {a : Nat} (h : (octS (l.take c) s).2 = some a) : octS l s = octS (l.take c) s := by
  unfold octS at h ⊢
  split at h
  · simp at h
  · rename_i b
    split at h
    · rename_i x hx
      have hx' := hx
      rw [List.getElem?_take] at hx'
      split at hx'
      · simp only [hx']
      · cases hx'
    · simp at h

theorem tk_pre {l : List UInt8} {c n k : Nat} (h : tk (l.take c) = some (n, k)) : tk l = some (n, k) := by
  obtain ⟨x, t, hx, rfl, hs, rfl⟩ := tk_some h
  cases l with
  | nil => simp at hx
  | cons y u =>
    cases c with
    | zero => simp at hx
    | succ c =>
      simp only [List.take_succ_cons, List.cons.injEq] at hx
      obtain ⟨rfl, rfl⟩ := hx
      rw [List.length_take] at hs
      rw [tk_long (by omega), List.take_take, Nat.min_eq_left (by omega)]

theorem numS_pre {l : List UInt8} {c : Nat} {s : Option Nat} {a : Nat} (h : (numS (l.take c) s).2 = some a) : numS l s = numS (l.take c) s := by
  unfold numS at h ⊢
  split at h
  · simp at h
  · rename_i b
    split at h
    · rename_i n k hk
      have hk' := hk
      rw [List.drop_take] at hk'
      simp only [tk_pre hk']
    · simp at h

theorem idS_pre {l : List UInt8} {c : Nat} {s : Option Nat} {a : Nat} (h : (idS (l.take c) s).2 = some a) : idS l s = idS (l.take c) s := by
  have h1 := h
  unfold idS at h1
  obtain ⟨b, hb, _⟩ := takeS_some h1
  obtain ⟨ho, _⟩ := needS_some hb
  have h2 := octS_pre ho
  have h3 := takeS_pre h1
  unfold idS
  rw [h2]
  exact h3

theorem idS_state {l : List UInt8} {s : Option Nat} {a : Nat} (h : (idS l s).2 = some a) : ∃ b, s = some b := by
  unfold idS at h
  obtain ⟨b, hb, _⟩ := takeS_some h
  obtain ⟨ho, _⟩ := needS_some hb
  unfold octS at ho
  split at ho
  · simp at ho
  · exact ⟨_, rfl⟩

theorem numS_state {l : List UInt8} {s : Option Nat} {a : Nat} (h : (numS l s).2 = some a) : ∃ b, s = some b := by
  unfold numS at h
  split at h
  · simp at h
  · exact ⟨_, rfl⟩

theorem long_pre {l : List UInt8} {c : Nat} {x : UInt8} {s : Option Nat} {a : Nat} (h : (longN (l.take c) x s).2 = some a) : longN l x s = longN (l.take c) x s := by
  have h1 := h
  unfold longN at h1
  obtain ⟨b, hb⟩ := numS_state h1
  have eN := numS_pre h1
  have hT : longT l x s = longT (l.take c) x s := by
    unfold longT at hb ⊢
    by_cases h0 : (spS x s).1 = 0
    · rw [if_pos h0] at hb ⊢
      rw [if_pos h0]
      obtain ⟨b2, hb2, _⟩ := takeS_some hb
      obtain ⟨b3, hb3⟩ := numS_state hb2
      have eR : longR l x s = longR (l.take c) x s := by
        have h3 := hb3
        unfold longR at h3 ⊢
        obtain ⟨b4, hb4⟩ := idS_state h3
        have eD : longD l x s = longD (l.take c) x s := by
          have h4 := hb4
          unfold longD at h4 ⊢
          obtain ⟨b5, hb5⟩ := idS_state h4
          obtain ⟨hb6, _⟩ := needS_some hb5
          rw [takeS_pre hb6]
          exact idS_pre h4
        rw [eD]
        exact idS_pre h3
      rw [eR, numS_pre hb2]
      exact takeS_pre hb
    · rw [if_neg h0] at hb ⊢
      rw [if_neg h0]
      simp only at hb ⊢
      have eR : longR l x s = longR (l.take c) x s := by
        have h3 := hb
        unfold longR at h3 ⊢
        obtain ⟨b4, hb4⟩ := idS_state h3
        have eD : longD l x s = longD (l.take c) x s := by
          have h4 := hb4
          unfold longD at h4 ⊢
          obtain ⟨b5, hb5⟩ := idS_state h4
          obtain ⟨hb6, _⟩ := needS_some hb5
          rw [takeS_pre hb6]
          exact idS_pre h4
        rw [eD]
        exact idS_pre h3
      rw [eR]
  unfold longN
  rw [hT]
  exact eN
end Go.Proofs.YtbnnjkjmadnjkaaDoor
