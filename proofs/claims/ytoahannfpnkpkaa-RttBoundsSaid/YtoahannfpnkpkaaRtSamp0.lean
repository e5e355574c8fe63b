/-
  Sample: of nil, and the first one.
-/
import Derived.Test.YtoahannfpnkpkaaRtSmall
import Derived.Laws.Tables
namespace Go.Proofs.Ytoahannfpnkpkaa
open Go.RowKit
set_option linter.unusedVariables false

theorem grown_setRowR (w : World) (g : Nat) (cs : Array Value) : w.grownBy (w.setRow g cs) (some g) :=
  ⟨rfl, rfl, rfl, by simp [World.setRow], fun k _ hne => setRow_other w g k cs (fun e => hne (by rw [e]))⟩
theorem Wh.rowR {w : World} {g : Nat} {t : TypeId} {old : Array Value} (h : Wh w g t old) (cs : Array Value) : Wh (w.setRow g cs) g t cs := by
  unfold Wh at h ⊢
  simp [World.setRow, Array.getElem?_modify, h]
theorem size_rs : (Try.prog.info? 26).map (·.size) = some 5 := by kernel_rfl
theorem rRow_one (s : RS) : (rRow s).all (·.oneCell') = true := by simp [rRow, Value.oneCell']

/-- What a call on a way that answers nothing leaves. -/
def RGave (g : Nat) (s : RS) (w : World) (e : Ending) (w' : World) : Prop := e = .returned (.tuple #[]) ∧ w.grownBy w' (some g) ∧ RAt w' g s

theorem samp_nil (w : World) (x y : Int) :
    Calls Try.prog 6 #[.pointer none, .int .u64 x, .int .u64 y] w fun e w' => e = .returned (.tuple #[]) ∧ w = w' := by
  go_enter Try.func6, Try.ntmps6
  go_wp2
  refine bodyPost_ret (results_none rfl _ _ _) rfl ?_
  exact ⟨rfl, rfl⟩

theorem samp_first (w : World) (g l d : Nat) (s : RS) (h : RAt w g s) (hs : s.has = false) (hl : l ≤ 18446744073709551615) (hd : d ≤ 18446744073709551615) :
    Calls Try.prog 6 #[.pointer (some ⟨g, 0, none⟩), .int .u64 (l : Int), .int .u64 (d : Int)] w (RGave g (sampS s l d) w) := by
  have h0 := h.c0
  rw [hs] at h0
  have f0 := h.fz 0
  obtain ⟨x, hx⟩ : ∃ x : Nat, x = min l mT := ⟨_, rfl⟩
  obtain ⟨y, hy⟩ : ∃ y : Nat, y = min d mT := ⟨_, rfl⟩
  have HX : Hid ((if (1099511627776 : Int) < (l : Int) then (1099511627776 : Int) else (l : Int)) = (x : Int)) := Lib.hid (by unfold mT at hx; split <;> omega)
  have HY : Hid ((if (1099511627776 : Int) < (d : Int) then (1099511627776 : Int) else (d : Int)) = (y : Int)) := Lib.hid (by unfold mT at hy; split <;> omega)
  obtain ⟨v, hv⟩ : ∃ v : Nat, v = x / 2 := ⟨_, rfl⟩
  have HS : Hid (sampS s l d = ⟨true, x, x, x, v⟩) := Lib.hid (by unfold sampS; rw [hs, ← hx, hv]; rfl)
  have hw : IntKind.u64.wrap ((x : Int) / 2) = (v : Int) := by rw [IntKind.wrap_u64]; unfold mT at hx; omega
  have HH := Lib.hid h
  clear hx hy h hs hv
  go_enter Try.func6, Try.ntmps6
  go_upto_region 3 with (fail)
  rw [HX.out, HY.out]
  clear HX HY h0 f0
  go_wp2_with (refine wpList_store_row rfl 26 (.tmp 27) (.tmp 25) rfl g (rRow ⟨true, x, x, x, v⟩) rfl rfl _ _ HH.out size_rs rfl (rRow_one _) ?_)
  refine bodyPost_ret (results_none rfl _ _ _) rfl ?_
  exact ⟨rfl, grown_setRowR _ _ _, by rw [HS.out]; exact Wh.rowR HH.out _⟩

end Go.Proofs.Ytoahannfpnkpkaa
