/-
  Samples that came in, in memory; what holds of a way behind samples, in plain numbers.
-/
import Derived.Test.YtoahannfpnkpkaaRtWorks
import Derived.Deep.MidRow
import Derived.Laws.Tables
import Derived.Deep.WholeRow
namespace Go.Proofs.Ytoahannfpnkpkaa
open Go.RowKit
set_option linter.unusedVariables false

/-- A sample. -/
structure SC where
  la : Nat
  de : Nat

def sCells (d : SC) : List Value := [.int .u64 (d.la : Int), .int .u64 (d.de : Int)]
theorem sCells_one (d : SC) : (sCells d).toArray.all (·.oneCell') = true := by simp [sCells, Value.oneCell']

/-- The slice at A reads as the samples, and lies below block B. -/
def Sms (w : World) (B : Nat) (A : Option Addr) (l : List SC) : Prop :=
  (l ≠ [] → ∃ b off, A = some ⟨b, off, none⟩ ∧ b < B ∧ ∀ i d, l[i]? = some d → w.rangeAt b (off + i * 2) (sCells d)) ∧ ∀ d ∈ l, d.la ≤ 18446744073709551615 ∧ d.de ≤ 18446744073709551615
theorem Sms.below {w w' : World} {B : Nat} {A : Option Addr} {l : List SC} (h : Sms w B A l) (hb : Below B w w') : Sms w' B A l := by
  refine ⟨fun hn => ?_, h.2⟩
  obtain ⟨b, off, rfl, hlt, hc⟩ := h.1 hn
  exact ⟨b, off, rfl, hlt, fun i d hd j v hv => (hb.cell (p := ⟨b, off + i * 2 + j, none⟩) hlt).trans (hc i d hd j v hv)⟩
theorem Sms.at_ {w : World} {B : Nat} {A : Option Addr} {l : List SC} (h : Sms w B A l) (hn : 0 < l.length) :
    ∃ b off, A = some ⟨b, off, none⟩ ∧ b < B ∧ ∀ i d, l[i]? = some d → w.rangeAt b (off + i * 2) (sCells d) :=
  h.1 (by rintro rfl; simp at hn)

theorem info_smp : (Try.prog.info? 34).map (·.size) = some 2 := by kernel_rfl

/-- What holds of a way behind samples of which these are the least and the greatest. -/
def BoundS (s : RS) (least most : Nat) : Prop :=
  (s = RS.new ∧ least = mT ∧ most = 0) ∨ (s.has = true ∧ s.mn = least ∧ s.sm ≤ most ∧ least ≤ s.sm + 7 ∧ s.va ≤ most ∧ s.la ≤ most ∧ least ≤ most ∧ most ≤ mT)

theorem BoundS.fits {s : RS} {least most : Nat} (h : BoundS s least most) : s.Fits := by
  rcases h with ⟨rfl, _, _⟩ | ⟨_, h1, h2, _, h3, h4, h5, h6⟩
  · exact rnew_fits
  · unfold mT at h6
    exact ⟨by omega, by omega, by omega, by omega⟩
theorem BoundS.tops {s : RS} {least most : Nat} (h : BoundS s least most) : least ≤ mT ∧ most ≤ mT := by
  rcases h with ⟨rfl, rfl, rfl⟩ | ⟨_, h1, h2, _, h3, h4, h5, h6⟩
  · exact ⟨Nat.le_refl _, by decide⟩
  · omega

/-- One more. -/
theorem BoundS.step {s : RS} {least most : Nat} (h : BoundS s least most) (l d : Nat) : BoundS (sampS s l d) (min least (min l mT)) (max most (min l mT)) ∧ (sampS s l d).la = min l mT ∧ (sampS s l d).has = true := by
  obtain ⟨x, hx⟩ : ∃ x, x = min l mT := ⟨_, rfl⟩
  have hxm : x ≤ mT := by omega
  rcases h with ⟨rfl, rfl, rfl⟩ | ⟨h0, h1, h2, h3, h4, h5, h6, h7⟩
  · unfold sampS RS.new
    rw [if_neg (by decide), ← hx]
    refine ⟨.inr ⟨rfl, ?_, ?_, ?_, ?_, ?_, ?_, ?_⟩, rfl, rfl⟩ <;> (try dsimp only) <;> omega
  · unfold sampS
    rw [if_pos h0, ← hx]
    obtain ⟨m, hm⟩ : ∃ m, m = min s.mn x := ⟨_, rfl⟩
    obtain ⟨y, hy⟩ : ∃ y, y = min d mT := ⟨_, rfl⟩
    rw [← hm, ← hy]
    obtain ⟨a, ha⟩ : ∃ a, a = adjN m x y := ⟨_, rfl⟩
    have ha1 : a ≤ x := by rw [ha]; unfold adjN; split <;> omega
    have ha2 : m ≤ a := by rw [ha]; unfold adjN; split <;> omega
    rw [← ha]
    refine ⟨.inr ⟨rfl, ?_, ?_, ?_, ?_, ?_, ?_, ?_⟩, rfl, rfl⟩ <;> (try dsimp only)
    · omega
    · exact mean8_le (by omega) (by omega)
    · unfold meanN; omega
    · exact mean4_le (by omega) (apart_le (by omega) (by omega))
    · omega
    · omega
    · omega

end Go.Proofs.Ytoahannfpnkpkaa
