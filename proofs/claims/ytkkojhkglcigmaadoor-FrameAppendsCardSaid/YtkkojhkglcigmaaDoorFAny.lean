/-
  The reader's frame, at any bytes; the closures that take its panic up.
-/
import Derived.Test.YtkkojhkglcigmaaDoorFPlain
import Derived.Test.YtkkojhkglcigmaaDoorFMany
import Derived.Test.YtkkojhkglcigmaaDoorFAcks
import Derived.Test.YtkkojhkglcigmaaDoorFData
import Derived.Test.YtkkojhkglcigmaaDoorFStream
import Derived.Test.YtkkojhkglcigmaaDoorFCid
import Derived.Test.YtkkojhkglcigmaaDoorFBad
import Derived.Defers
import Derived.Recover
namespace Go.Proofs.YtkkojhkglcigmaaDoor
open Go.RowKit
set_option linter.unusedVariables false

theorem str_bits : ∀ k : Nat, k < 16 → k / 8 = 1 → bt (strN k) 1 = true ∧ bt (strN k) 32 = false ∧ bt (strN k) 128 = false ∧ bt (strN k) 1024 = true ∧ bt (strN k) 2048 = false := by decide +kernel

def codeN (p : Nat) : Nat := (if bt p 32 then 1 else 0) + (if bt p 128 then 2 else 0) + (if bt p 1024 then 4 else 0) + (if bt p 2048 then 8 else 0)

theorem code_parts : ∀ k : Nat, k < 31 → bt (partsN k) 1 = true → codeN (partsN k) = 0 ∨ codeN (partsN k) = 1 ∨ codeN (partsN k) = 2 ∨ codeN (partsN k) = 4 ∨ codeN (partsN k) = 8 := by decide +kernel

theorem parts_bits (k : Nat) (hk : k < 31) (h1 : bt (partsN k) 1 = true) :
    (bt (partsN k) 32 = false ∧ bt (partsN k) 128 = false ∧ bt (partsN k) 1024 = false ∧ bt (partsN k) 2048 = false) ∨ (bt (partsN k) 32 = true ∧ bt (partsN k) 128 = false ∧ bt (partsN k) 1024 = false ∧ bt (partsN k) 2048 = false) ∨
    (bt (partsN k) 32 = false ∧ bt (partsN k) 128 = true ∧ bt (partsN k) 1024 = false ∧ bt (partsN k) 2048 = false) ∨ (bt (partsN k) 32 = false ∧ bt (partsN k) 128 = false ∧ bt (partsN k) 1024 = true ∧ bt (partsN k) 2048 = false) ∨
    (bt (partsN k) 32 = false ∧ bt (partsN k) 128 = false ∧ bt (partsN k) 1024 = false ∧ bt (partsN k) 2048 = true) := by
  have h := code_parts k hk h1
  unfold codeN at h
  generalize bt (partsN k) 32 = a at *
  generalize bt (partsN k) 128 = b at *
  generalize bt (partsN k) 1024 = c at *
  generalize bt (partsN k) 2048 = d at *
  revert h
  cases a <;> cases b <;> cases c <;> cases d <;> decide

theorem parts_big {k : Nat} (h : 31 ≤ k) : bt (partsN k) 1 = false := by rw [partsN_big h]; decide

theorem frame_any (l : List UInt8) (w : World) (B rb : Nat) (hr : Rd w B rb l) (hT : PT w) (hgB : 0 < B) (hlen : l.length ≤ 16777216) :
    Calls Tryd.prog 34 #[.pointer (some ⟨rb, 0, none⟩)] w (FrameGave w B rb (frame_ l)) := by
  cases l with
  | nil => exact frame_nil w B rb hr
  | cons x t =>
    simp only [List.length_cons] at hlen
    by_cases hs : x.toNat / 8 = 1
    · obtain ⟨h1, hm, ha, hd, hc⟩ := str_bits x.toNat (by omega) hs
      exact frame_stream x t w B rb hr hT hgB (by omega) hs h1 hm ha hd hc
    · cases h1 : bt (partsN x.toNat) 1
      · exact frame_bad x t w B rb hr hT hgB (by omega) hs h1
      · have hk : x.toNat < 31 := by
          rcases Nat.lt_or_ge x.toNat 31 with h | h
          · exact h
          · rw [parts_big h] at h1; cases h1
        rcases parts_bits x.toNat hk h1 with ⟨hm, ha, hd, hc⟩ | ⟨hm, ha, hd, hc⟩ | ⟨hm, ha, hd, hc⟩ | ⟨hm, ha, hd, hc⟩ | ⟨hm, ha, hd, hc⟩
        · exact frame_plain x t w B rb hr hT hgB (by omega) hs h1 hm ha hd hc
        · exact frame_many x t w B rb hr hT hgB (by omega) hs h1 hm ha hd hc
        · exact frame_acks x t w B rb hr hT hgB (by omega) hs h1 hm ha hd hc
        · exact frame_data x t w B rb hr hT hgB (by omega) hs h1 hm ha hd hc
        · exact frame_cid x t w B rb hr hT hgB (by omega) hs h1 hm ha hd hc

set_option maxRecDepth 10000 in
set_option maxHeartbeats 1000000 in
theorem takeCatch_idle (p q r : Addr) (w : World) :
    CallsD Tryd.prog 35 #[.pointer (some p), .pointer (some q), .pointer (some r)] .returning w fun e u' w' => e = .returned (.tuple #[]) ∧ u' = .returning ∧ w' = w := by
  refine callsD_of_wpS Tryd.func35 rfl fun c₀ cs hu => ?_
  apply wpS_seq
  apply wpS_region
  simp [wpOpsS, go_sem, recoverD, hu, Tryd.ntmps35, Exit.thenS]
  refine wpS_cond (t := false) (by simp [Act.eval, Array.replicate]) ?_
  simp only [Bool.false_eq_true, if_false]
  refine wpS_of_wp (wp_skip ?_)
  cases c₀
  simp_all [bodyPostS, results, Tryd.results35]

set_option maxRecDepth 10000 in
set_option maxHeartbeats 1000000 in
theorem takeCatch_panic (g q r : Nat) (x y : Int) (old : Array Value) (u : TypeId) (pv : Value) (older : List PanicEntry) (w : World) (hW : Wh w g 32 old) (hsz : old.size = 30)
    (hq : w.cell? ⟨q, 0, none⟩ = some (.int .i64 x)) (hqz : w.frozen? ⟨q, 0, none⟩ = false) (hr : w.cell? ⟨r, 0, none⟩ = some (.int .i64 y)) (hrz : w.frozen? ⟨r, 0, none⟩ = false) (hgq : g ≠ q) (hgr : g ≠ r) (hqr : ¬ q = r) (hrq : ¬ r = q) :
    CallsD Tryd.prog 35 #[.pointer (some ⟨g, 0, none⟩), .pointer (some ⟨q, 0, none⟩), .pointer (some ⟨r, 0, none⟩)] (.panicking ({ v := .iface u pv, recovered := false } :: older)) w fun e u' w' =>
      e = .returned (.tuple #[]) ∧ u' = .panicking ({ v := .iface u pv, recovered := true } :: older) ∧ w' = ((w.setRow g (zRow 0)).setCell ⟨q, 0, none⟩ (.int .i64 0)).setCell ⟨r, 0, none⟩ (.int .i64 2) := by
  have hzr : (#[.int .u64 0, .int .u64 0, .int .u64 0, .int .u64 0, .int .u64 0, .int .u64 0, .bool false, .slice none 0 0, .slice none 0 0, .int .u8 0, .int .u8 0, .int .u8 0, .int .u8 0, .int .u8 0, .int .u8 0, .int .u8 0, .int .u8 0, .int .u8 0, .int .u8 0, .int .u8 0, .int .u8 0, .int .u8 0, .int .u8 0, .int .u8 0, .int .u8 0, .slice none 0 0, .int .u64 0, .int .u64 0, .int .u64 0, .int .u64 0] : Array Value) = zRow 0 := rfl
  refine callsD_of_wpS Tryd.func35 rfl fun c₀ cs hu => ?_
  apply wpS_seq
  apply wpS_region
  simp [wpOpsS, go_sem, recoverD, hu, Tryd.ntmps35, Exit.thenS]
  refine wpS_cond (t := true) (by simp [Act.eval, Array.replicate]) ?_
  simp only [if_true]
  have hgr1 := grown_row w g (zRow 0)
  have hq1 : (w.setRow g (zRow 0)).cell? ⟨q, 0, none⟩ = some (.int .i64 x) := hgr1.cell hq (by simp; omega)
  have hr1 : (w.setRow g (zRow 0)).cell? ⟨r, 0, none⟩ = some (.int .i64 y) := hgr1.cell hr (by simp; omega)
  have hqz1 : (w.setRow g (zRow 0)).frozen? ⟨q, 0, none⟩ = false := (World.frozen?_of_block (hgr1.block q (World.block_lt_of_cell? w _ hq) (by simp; omega))).trans hqz
  have hrz1 : (w.setRow g (zRow 0)).frozen? ⟨r, 0, none⟩ = false := (World.frozen?_of_block (hgr1.block r (World.block_lt_of_cell? w _ hr) (by simp; omega))).trans hrz
  clear hgr1
  refine wpS_of_wp ?_
  go_wp2_with (refine wpList_store_row rfl 32 (.tmp 0) (.tmp 5) rfl g (zRow 0) rfl rfl _ _ hW info_frame hsz (rowF_one (zP 0) zA) ?_)
  simp [bodyPostS, results, Tryd.results35]

set_option maxRecDepth 10000 in
set_option maxHeartbeats 1000000 in
theorem listCatch_idle (p q : Addr) (w : World) :
    CallsD Tryd.prog 33 #[.pointer (some p), .pointer (some q)] .returning w fun e u' w' => e = .returned (.tuple #[]) ∧ u' = .returning ∧ w' = w := by
  refine callsD_of_wpS Tryd.func33 rfl fun c₀ cs hu => ?_
  apply wpS_seq
  apply wpS_region
  simp [wpOpsS, go_sem, recoverD, hu, Tryd.ntmps33, Exit.thenS]
  refine wpS_cond (t := false) (by simp [Act.eval, Array.replicate]) ?_
  simp only [Bool.false_eq_true, if_false]
  refine wpS_of_wp (wp_skip ?_)
  cases c₀
  simp_all [bodyPostS, results, Tryd.results33]

set_option maxRecDepth 10000 in
set_option maxHeartbeats 1000000 in
theorem listCatch_panic (q r : Nat) (v : Value) (y : Int) (u : TypeId) (pv : Value) (older : List PanicEntry) (w : World)
    (hq : w.cell? ⟨q, 0, none⟩ = some v) (hqz : w.frozen? ⟨q, 0, none⟩ = false) (hr : w.cell? ⟨r, 0, none⟩ = some (.int .i64 y)) (hrz : w.frozen? ⟨r, 0, none⟩ = false) (hqr : ¬ q = r) (hrq : ¬ r = q) :
    CallsD Tryd.prog 33 #[.pointer (some ⟨q, 0, none⟩), .pointer (some ⟨r, 0, none⟩)] (.panicking ({ v := .iface u pv, recovered := false } :: older)) w fun e u' w' =>
      e = .returned (.tuple #[]) ∧ u' = .panicking ({ v := .iface u pv, recovered := true } :: older) ∧ w' = (w.setCell ⟨q, 0, none⟩ (.slice none 0 0)).setCell ⟨r, 0, none⟩ (.int .i64 2) := by
  refine callsD_of_wpS Tryd.func33 rfl fun c₀ cs hu => ?_
  apply wpS_seq
  apply wpS_region
  simp [wpOpsS, go_sem, recoverD, hu, Tryd.ntmps33, Exit.thenS]
  refine wpS_cond (t := true) (by simp [Act.eval, Array.replicate]) ?_
  simp only [if_true]
  refine wpS_of_wp ?_
  go_wp2
  simp [bodyPostS, results, Tryd.results33]

end Go.Proofs.YtkkojhkglcigmaaDoor
