/-
  The walk through the statement HeadBack, at every input.
-/
import Derived.Test.YtpnpbjdkldmmdaaDoorHLawBack
import Derived.Test.YtpnpbjdkldmmdaaDoorHBackN
namespace Go.Proofs.YtpnpbjdkldmmdaaDoor
open Go.RowKit
set_option linter.unusedVariables false

theorem hback_any (sp pn : Nat) (dst src tok load behind : List UInt8) (ph : Bool) (pnb mask : Int) (A1 : Option Addr) (c1 : Nat) (A2 : Option Addr) (c2 : Nat) (A3 : Option Addr) (c3 : Nat) (A4 : Option Addr) (c4 : Nat) (A5 : Option Addr) (c5 : Nat) (w : World) (hT : Tab w)
    (h1 : Sl w w.heap.size A1 dst) (h2 : Sl w w.heap.size A2 src) (h3 : Sl w w.heap.size A3 tok) (h4 : Sl w w.heap.size A4 load) (h5 : Sl w w.heap.size A5 behind) (hmb : 0 ≤ mask ∧ mask ≤ 255) :
    Calls Tryd.prog 3 #[.agg (headOf sp dst src tok ph (pn : Int) pnb A1 c1 A2 c2 A3 c3), .slice A4 load.length c4, .slice A5 behind.length c5, .int .u8 mask] w fun e w' => e = .returned (.bool true) ∧ Below w.heap.size w w' := by
  cases hm : mayB sp dst.length src.length tok.length ph (pn : Int) pnb
  · exact hback_free sp pn dst src tok load behind ph pnb mask A1 c1 A2 c2 A3 c3 A4 c4 A5 c5 w hT (.inl hm)
  by_cases hl : load.length ≤ 2000
  case neg => exact hback_free sp pn dst src tok load behind ph pnb mask A1 c1 A2 c2 A3 c3 A4 c4 A5 c5 w hT (.inr ⟨hm, .inl (by omega)⟩)
  by_cases hb : behind.length ≤ 2000
  case neg => exact hback_free sp pn dst src tok load behind ph pnb mask A1 c1 A2 c2 A3 c3 A4 c4 A5 c5 w hT (.inr ⟨hm, .inr ⟨hl, .inl (by omega)⟩⟩)
  by_cases ht : tok.length ≤ 3000
  case neg => exact hback_free sp pn dst src tok load behind ph pnb mask A1 c1 A2 c2 A3 c3 A4 c4 A5 c5 w hT (.inr ⟨hm, .inr ⟨hl, .inr ⟨hb, .inl (by omega)⟩⟩⟩)
  by_cases h20 : pnb + load.length < 20
  · exact hback_free sp pn dst src tok load behind ph pnb mask A1 c1 A2 c2 A3 c3 A4 c4 A5 c5 w hT (.inr ⟨hm, .inr ⟨hl, .inr ⟨hb, .inr ⟨ht, h20⟩⟩⟩⟩)
  obtain ⟨f1, f2, f3, f4, f5, f6, f7, f8, f9⟩ := may_facts hm
  obtain ⟨k, rfl⟩ : ∃ k : Nat, pnb = (k : Int) := ⟨pnb.toNat, by omega⟩
  obtain ⟨m, rfl⟩ : ∃ m : Nat, mask = (m : Int) := ⟨mask.toNat, by omega⟩
  have hk : k = 1 ∨ k = 2 ∨ k = 3 ∨ k = 4 := by omega
  by_cases h2' : sp = 2
  · subst h2'
    obtain rfl : src = [] := List.eq_nil_of_length_eq_zero (f7 rfl).1
    obtain rfl : tok = [] := List.eq_nil_of_length_eq_zero (f7 rfl).2
    have hfb : firstB 2 k ph = 63 + k + (if ph then 4 else 0) := by unfold firstB; simp
    obtain ⟨g1, g2, g3⟩ := short_bare (ph := ph) hk
    have hp4 : (if ph then 4 else 0 : Nat) ≤ 4 := by split <;> omega
    have hp64 : 64 ≤ 63 + k + (if ph then 4 else 0 : Nat) := by omega
    exact hback_main 2 k pn (1 + dst.length) (63 + k + (if ph then 4 else 0)) m dst [] [] load behind dst ph A1 c1 A2 c2 A3 c3 A4 c4 A5 c5 w hT hm hl hb ht (by omega) h1 h2 h3 h4 h5
      (by unfold headB; rw [hfb, if_pos rfl]) (by omega) (by omega) rfl (by omega)
      (fun z l hz _ hz2 e => back_short (be_length _ _) f1 (by omega) (by omega) z l hz (hz2 rfl) (by rw [if_pos rfl] at e; exact e))
      g1 (fun b hb' => by
        obtain rfl : true = b := by rw [← hb']; rfl
        exact g2) g3
  · have hsp : sp = 0 ∨ sp = 1 := by omega
    obtain rfl : ph = false := f9 h2'
    have htk : sp = 1 → tok = [] := fun e => List.eq_nil_of_length_eq_zero (f8 e)
    have hfb : firstB sp k false = 191 + k + 32 * sp := by
      unfold firstB
      rcases hsp with rfl | rfl <;> simp <;> omega
    obtain ⟨g1, g2, g3⟩ := long_bare hsp hk
    have hy0 : (191 + k + 32 * sp) / 16 = 12 + 2 * sp := by omega
    exact hback_main sp k pn (1 + (longB sp dst src tok (k + load.length)).length) (191 + k + 32 * sp) m dst src tok load behind (longB sp dst src tok (k + load.length)) false A1 c1 A2 c2 A3 c3 A4 c4 A5 c5 w hT hm hl hb ht (by omega) h1 h2 h3 h4 h5
      (by unfold headB; rw [hfb, if_neg h2']) (by omega) (by omega) rfl (longB_le f1 f2 ht)
      (fun z l hz hz1 _ e => by
        rw [if_neg h2'] at e ⊢
        exact back_long (dst.length : Int) hsp htk (be_length _ _) (by omega) f1 f2 ht hl (by omega) hy0 z l hz (hz1 h2') e)
      g1 (fun b hb' => by
        obtain rfl : false = b := by
          rw [← hb']
          exact (beq_eq_false_iff_ne.2 (by omega)).symm
        exact g2) g3

end Go.Proofs.YtpnpbjdkldmmdaaDoor
