/-
  What was heard, in memory: handed on to the calls of layer 11.
-/
import Derived.Test.YtaemfoelhijbjaaSpHas
import Derived.Test.YtaemfoelhijbjaaHeKit0
namespace Go.Proofs.Ytaemfoelhijbjaa
open Go.RowKit
set_option linter.unusedVariables false

theorem HAt.hands {w : World} {g n c : Nat} {A : Option Addr} {s : HS} (h : HAt w g A n c s) (hn : n ≤ 1000000) (hf : FitL s.l) : Hands w w.heap.size A n c s.l := ⟨h.len, hn, h.reads.rs, h.cap, h.top, hf⟩

/-- One number, asked for. -/
theorem has_one {w : World} {A : Option Addr} {n c x : Nat} {l : List (Nat × Nat)} (h : Hands w w.heap.size A n c l) :
    Calls Try.prog 12 #[.slice A n c, .slice (some ⟨w.heap.size, 0, none⟩) 1 1] (w.alloc (.cells #[.int .u64 (x : Int)] 24)) fun e w' => e = .returned (.bool (inB l x)) ∧ Below w.heap.size w w' := by
  have hA := (Below.refl w.heap.size w).alloc (Nat.le_refl _) (.cells #[.int .u64 (x : Int)] 24)
  have hs : Sv (w.alloc (.cells #[.int .u64 (x : Int)] 24)) (w.alloc (.cells #[.int .u64 (x : Int)] 24)).heap.size (some ⟨w.heap.size, 0, none⟩) ([x].map cell64) := by
    intro _
    refine ⟨w.heap.size, 0, rfl, by simp, fun i v hv => ?_⟩
    rw [Nat.zero_add, (Wh.new w 24 #[.int .u64 (x : Int)]).cell]
    cases i with
    | zero => simpa [cell64] using hv
    | succ i => simp at hv
  refine (has_any _ w.heap.size A (some ⟨w.heap.size, 0, none⟩) n c 1 1 l [x] (h.below hA) (by simp) hs rfl (by omega)).mono fun e w' ⟨he, hb⟩ => ⟨by rw [he]; simp, hA.trans (hb.mono (by simp))⟩

end Go.Proofs.Ytaemfoelhijbjaa
