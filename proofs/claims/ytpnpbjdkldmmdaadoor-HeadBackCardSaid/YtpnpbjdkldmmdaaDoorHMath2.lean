/-
  What Split tells of a packet's bytes, whole or cut, in plain lists.
-/
import Derived.Test.YtpnpbjdkldmmdaaDoorHKnown
namespace Go.Proofs.YtpnpbjdkldmmdaaDoor
set_option linter.unusedVariables false

theorem first_of {l t : List UInt8} {x : UInt8} (h : l = x :: t) (h6 : x.toNat / 64 % 2 = 1) : firstS l = x ∧ nextS l = some 1 := by
  subst h
  have h1 : octS (x :: t) (some 0) = (x, some 1) := rfl
  have h2 : firstS (x :: t) = x := by unfold firstS; rw [h1]
  refine ⟨h2, ?_⟩
  unfold nextS
  rw [h1, h2, h6]
  rfl

/-- A long packet's bytes, whatever the protected bits are. -/
theorem long_whole {l r : List UInt8} {x : UInt8} {sp m : Nat} {dst src tok : List UInt8} (own : Int) (hl : l = x :: (longB sp dst src tok m ++ r)) (hsp : sp = 0 ∨ sp = 1) (hx : x.toNat / 16 = 12 + 2 * sp) (htk : sp = 1 → tok = [])
    (hd : dst.length ≤ 20) (hs : src.length ≤ 20) (ht : tok.length ≤ 1048576) (hm : m ≤ 4611686018427387903) :
    splitP l own = ⟨sp, dst, src, tok⟩ ∧ splitA l own = some (1 + (longB sp dst src tok m).length) ∧ splitN l own = m := by
  obtain ⟨hf, hn⟩ := first_of hl (by omega)
  have h128 : (firstS l).toNat / 128 = 1 := by rw [hf]; have := x.toNat_lt; omega
  obtain ⟨e1, e2, e3, e4, e5⟩ := long_at hl (by
    rcases hsp with rfl | rfl
    · exact .inl ⟨rfl, by omega⟩
    · exact .inr ⟨rfl, by omega, htk rfl⟩) hd hs ht hm
  unfold splitP splitA splitN
  rw [if_pos h128, if_pos h128, if_pos h128, hf, hn, e1, e2, e3, e4, e5]
  exact ⟨rfl, rfl, rfl⟩

theorem splitT_some {l : List UInt8} {own : Int} {a n : Nat} (ha : splitA l own = some a) (hn : splitN l own = n) (h20 : 20 ≤ n) (hle : n ≤ l.length - a) : splitT l own = some (a + n) := by
  unfold splitT
  rw [ha, hn, show decide ((20 : Int) ≤ (n : Int)) = true from decide_eq_true (by omega)]
  unfold needS takeS
  simp only [if_true]
  rw [if_pos hle]

/-- A short packet's bytes. -/
theorem short_whole {l r : List UInt8} {x : UInt8} {dst : List UInt8} (hl : l = x :: (dst ++ r)) (hx : x.toNat / 32 = 2) (hd : dst.length ≤ 20) :
    splitP l dst.length = ⟨2, dst, [], []⟩ ∧ splitA l dst.length = some (1 + dst.length) ∧ splitN l dst.length = r.length := by
  obtain ⟨hf, hn⟩ := first_of hl (by omega)
  have h128 : ¬ (firstS l).toNat / 128 = 1 := by rw [hf]; omega
  have hdr : l.drop 1 = dst ++ r := by rw [hl]; rfl
  have hS : shortD l dst.length (some 1) = (dst, some (1 + dst.length)) := by
    unfold shortD
    rw [show decide ((0 : Int) ≤ (dst.length : Int)) = true from decide_eq_true (by omega), show decide ((dst.length : Int) ≤ 20) = true from decide_eq_true (by omega)]
    simp only [Bool.and_self, needS, if_true, Int.toNat_natCast]
    exact (takeS_at hdr).1
  have hA : splitA l dst.length = some (1 + dst.length) := by
    unfold splitA
    rw [if_neg h128, hn, hS]
  refine ⟨?_, hA, ?_⟩
  · unfold splitP
    rw [if_neg h128, hn, hS]
  · unfold splitN
    rw [if_neg h128, hA, hl]
    simp
    omega

/-- A long packet that is cut short is none. -/
theorem cut_none {l : List UInt8} {x : UInt8} {sp m c : Nat} {dst src tok r : List UInt8} (own : Int) (hl : l = x :: (longB sp dst src tok m ++ r)) (hsp : sp = 0 ∨ sp = 1) (hx : x.toNat / 16 = 12 + 2 * sp) (htk : sp = 1 → tok = [])
    (hd : dst.length ≤ 20) (hs : src.length ≤ 20) (ht : tok.length ≤ 1048576) (hm : m ≤ 4611686018427387903) (hr : r.length = m) (hc : c < l.length) : splitT (l.take c) own = none := by
  rcases h : splitT (l.take c) own with _ | t
  · rfl
  exfalso
  unfold splitT at h
  obtain ⟨a, ha, hle, _⟩ := takeS_some h
  obtain ⟨ha, h20⟩ := needS_some ha
  have h20 := of_decide_eq_true h20
  obtain ⟨_, e2, e3⟩ := long_whole own hl hsp hx htk hd hs ht hm
  cases c with
  | zero =>
    rw [List.take_zero] at ha
    have hz : splitA [] own = none := by
      unfold splitA
      rw [if_neg (by decide)]
      have : nextS [] = none := by decide
      rw [this]
      unfold shortD
      have hnn : ∀ b : Bool, needS none b = none := fun b => by cases b <;> rfl
      rw [hnn]
      rfl
    rw [hz] at ha
    cases ha
  | succ c =>
    have hl' : l.take (c + 1) = x :: (longB sp dst src tok m ++ r).take c := by rw [hl, List.take_succ_cons]
    obtain ⟨hf, hn⟩ := first_of hl' (by omega)
    obtain ⟨hf0, hn0⟩ := first_of hl (by omega)
    have h128 : (firstS (l.take (c + 1))).toNat / 128 = 1 := by rw [hf]; have := x.toNat_lt; omega
    have h128' : (firstS l).toNat / 128 = 1 := by rw [hf0]; have := x.toNat_lt; omega
    unfold splitA at ha e2
    unfold splitN at hle e3 h20
    rw [if_pos h128, hf, hn] at ha hle h20
    rw [if_pos h128', hf0, hn0] at e2 e3
    have hp := long_pre ha
    rw [← hp] at ha hle h20
    rw [e2] at ha
    obtain rfl := Option.some.inj ha
    rw [e3, List.length_take] at hle
    rw [e3] at h20
    have hll : l.length = 1 + (longB sp dst src tok m).length + r.length := by rw [hl]; simp; omega
    omega

theorem first_long {sp k : Nat} (hsp : sp = 0 ∨ sp = 1) (hk : 1 ≤ k ∧ k ≤ 4) : (UInt8.ofNat (firstB sp k false)).toNat = 191 + k + 32 * sp := by
  have : firstB sp k false = 191 + k + 32 * sp := by
    unfold firstB
    rcases hsp with rfl | rfl <;> simp <;> omega
  rw [this, UInt8.toNat_ofNat', Nat.mod_eq_of_lt (by omega)]

theorem first_short {k : Nat} {ph : Bool} (hk : 1 ≤ k ∧ k ≤ 4) : (UInt8.ofNat (firstB 2 k ph)).toNat = 63 + k + (if ph then 4 else 0) := by
  have : firstB 2 k ph = 63 + k + (if ph then 4 else 0) := by
    unfold firstB
    simp
  rw [this, UInt8.toNat_ofNat', Nat.mod_eq_of_lt (by split <;> omega)]

end Go.Proofs.YtpnpbjdkldmmdaaDoor
