/-
  head.Put at every head; what a head that may be keeps.
-/
import Derived.Test.YtpnpbjdkldmmdaaDoorHPut2
namespace Go.Proofs.YtpnpbjdkldmmdaaDoor
open Go.RowKit
set_option linter.unusedVariables false

theorem may_facts {sp n1 n2 n3 : Nat} {ph : Bool} {pn pnb : Int} (h : mayB sp n1 n2 n3 ph pn pnb = true) :
    n1 ≤ 20 ∧ n2 ≤ 20 ∧ 1 ≤ pnb ∧ pnb ≤ 4 ∧ pn ≤ 4611686018427387903 ∧ (sp = 0 ∨ sp = 1 ∨ sp = 2) ∧ (sp = 2 → n2 = 0 ∧ n3 = 0) ∧ (sp = 1 → n3 = 0) ∧ (sp ≠ 2 → ph = false) := by
  unfold mayB at h
  split at h
  · rename_i h0
    obtain ⟨h1, h2, h3, h4, h5⟩ := h0
    split at h
    · rename_i e
      subst e
      exact ⟨h1, h2, h3, h4, h5, .inl rfl, by simp, by simp, fun _ => by simpa using h⟩
    · split at h
      · rename_i e
        subst e
        simp only [Bool.and_eq_true, decide_eq_true_eq, Bool.not_eq_true'] at h
        exact ⟨h1, h2, h3, h4, h5, .inr (.inl rfl), by simp, fun _ => h.2, fun _ => h.1⟩
      · split at h
        · rename_i e
          subst e
          simp only [Bool.and_eq_true, decide_eq_true_eq] at h
          exact ⟨h1, h2, h3, h4, h5, .inr (.inr rfl), fun _ => h, by simp, by simp⟩
        · cases h
  · cases h

theorem hput_any (sp : Nat) (dst src tok : List UInt8) (ph : Bool) (pn : Nat) (pnb n : Int) (A1 : Option Addr) (c1 : Nat) (A2 : Option Addr) (c2 : Nat) (A3 : Option Addr) (c3 : Nat) (w : World)
    (h1 : Sl w w.heap.size A1 dst) (h2 : Sl w w.heap.size A2 src) (h3 : Sl w w.heap.size A3 tok) (ht : tok.length ≤ 3000) (hT : Tab w) :
    Calls Tryd.prog 9 #[.agg (headC sp A1 dst.length c1 A2 src.length c2 A3 tok.length c3 ph (pn : Int) pnb), .int .i64 n] w (HPutGave w sp dst src tok ph pn pnb n) := by
  by_cases h : mayB sp dst.length src.length tok.length ph (pn : Int) pnb = true ∧ 0 ≤ n ∧ n ≤ 65536
  · obtain ⟨hm, hn0, hn⟩ := h
    obtain ⟨f1, f2, f3, f4, f5, f6, f7, f8, f9⟩ := may_facts hm
    obtain ⟨N, rfl⟩ : ∃ N : Nat, n = (N : Int) := ⟨n.toNat, by omega⟩
    obtain ⟨k, rfl⟩ : ∃ k : Nat, pnb = (k : Int) := ⟨pnb.toNat, by omega⟩
    refine (hput_ok sp k N pn dst src tok ph A1 c1 A2 c2 A3 c3 w hm (by omega) h1 h2 h3 ht hT f6 (by omega) f1 f2).mono fun e w' hg => ⟨fun _ => hg, fun hno => absurd ⟨hm, hn0, hn⟩ hno⟩
  · exact (hput_bad sp dst src tok ph pn pnb n A1 c1 A2 c2 A3 c3 w h).mono fun e w' hg => ⟨fun hy => absurd hy h, fun _ => hg⟩

end Go.Proofs.YtpnpbjdkldmmdaaDoor
