/-
  The frames of the law's known rows. Plain mathematics.
  The heap of the law's known rows: made by tools/gen_fknown.py.
  The rows of the law's known table, as they lie.
  The walk through hostlerlaw02.known.
-/
import Derived.Test.YtkkojhkglcigmaaDoorFLen
import Derived.Test.YtkkojhkglcigmaaDoorMFs
import Derived.Test.YtkkojhkglcigmaaDoorMFl
import Derived.Lib.SmallJoins
namespace Go.Proofs.YtkkojhkglcigmaaDoor

section
set_option linter.unusedVariables false

def tok0 : List UInt8 := List.replicate 16 0

def fPad2 : PF := { zP 0 with n := 2 }
def fPing : PF := zP 1

theorem sF_yes {f : PF} {l : List UInt8} (h : MayF f) : sF f l = some (f, l) := by
  unfold sF
  exact if_pos h

set_option maxRecDepth 100000 in
theorem may_pad2 : MayF fPad2 := ⟨by decide +kernel, by decide +kernel, by decide +kernel, by simp [KindP, fPad2, zP]⟩
set_option maxRecDepth 100000 in
theorem may_ping : MayF fPing := ⟨by decide +kernel, by decide +kernel, by decide +kernel, by simp [KindP, fPing, zP]⟩

set_option maxRecDepth 100000 in
theorem fr_pad2 : frame_ [0, 0, 1] = some (fPad2, [1]) := (show frame_ [0, 0, 1] = sF fPad2 [1] by rfl).trans (sF_yes may_pad2)
set_option maxRecDepth 100000 in
theorem fr_ping : frame_ [1] = some (fPing, []) := (show frame_ [1] = sF fPing [] by rfl).trans (sF_yes may_ping)

def fAck1 : PF := { zP 2 with acks := [(3, 7), (8, 11)], delay := 5 }
def fStr1 : PF := { zP 8 with id := 4, off := 2, fin := true, data := [120] }
def fStr2 : PF := { zP 8 with id := 4, off := 2, data := [120, 121] }

theorem okr1 : OkR [(3, 7), (8, 11)] := by
  intro i x hx
  match i with
  | 0 =>
    obtain rfl : (3, 7) = x := by simpa using hx
    exact ⟨by simp, by simp, fun y h => absurd h (by omega)⟩
  | 1 =>
    obtain rfl : (8, 11) = x := by simpa using hx
    refine ⟨by simp, by simp, fun y _ hy => ?_⟩
    obtain rfl : (3, 7) = y := by simpa using hy
    simp
  | i + 2 => simp at hx

set_option maxRecDepth 100000 in
theorem may_ack1 : MayF fAck1 := ⟨by decide +kernel, by decide +kernel, by decide +kernel, by simp [KindP, fAck1, zP, okr1]⟩
set_option maxRecDepth 100000 in
theorem may_str1 : MayF fStr1 := ⟨by decide +kernel, by decide +kernel, by decide +kernel, by simp [KindP, fStr1, zP]⟩
set_option maxRecDepth 100000 in
theorem may_str2 : MayF fStr2 := ⟨by decide +kernel, by decide +kernel, by decide +kernel, by simp [KindP, fStr2, zP]⟩

set_option maxRecDepth 100000 in
theorem fr_ack1 : frame_ [2, 10, 5, 1, 2, 0, 3] = some (fAck1, []) := (show frame_ [2, 10, 5, 1, 2, 0, 3] = sF fAck1 [] by rfl).trans (sF_yes may_ack1)
set_option maxRecDepth 100000 in
theorem fr_str1 : frame_ [0x0f, 4, 2, 1, 120] = some (fStr1, []) := (show frame_ [0x0f, 4, 2, 1, 120] = sF fStr1 [] by rfl).trans (sF_yes may_str1)
set_option maxRecDepth 100000 in
theorem fr_str2 : frame_ [0x0c, 4, 2, 120, 121] = some (fStr2, []) := (show frame_ [0x0c, 4, 2, 120, 121] = sF fStr2 [] by rfl).trans (sF_yes may_str2)

set_option maxRecDepth 100000 in
theorem fr_no1 : frame_ [0x1f] = none := by rfl
set_option maxRecDepth 100000 in
theorem fr_no2 : frame_ [2, 1, 0, 0, 2] = none := by rfl
set_option maxRecDepth 100000 in
theorem fr_no4 : frame_ [0x40, 1] = none := by rfl
set_option maxRecDepth 100000 in
theorem fr_no3 : frame_ [7, 0] = none := by
  refine (show frame_ [7, 0] = sF (zP 7) [] by rfl).trans ?_
  unfold sF
  rw [if_neg]
  intro h
  have := h.2.2.2.2.2.1
  simp [zP] at this

/-- The rows: bytes, and the frames that they are. -/
def kB : Nat → List UInt8
  | 0 => [0, 0, 1]
  | 1 => [2, 10, 5, 1, 2, 0, 3]
  | 2 => [0x0f, 4, 2, 1, 120]
  | _ => [0x0c, 4, 2, 120, 121]
def kF : Nat → List PF
  | 0 => [fPad2, fPing]
  | 1 => [fAck1]
  | 2 => [fStr1]
  | _ => [fStr2]
def kN : Nat → List UInt8
  | 0 => [0x1f]
  | 1 => [2, 1, 0, 0, 2]
  | 2 => [7, 0]
  | 3 => [0x40, 1]
  | _ => []

theorem list_last {l : List UInt8} {f : PF} (h : frame_ l = some (f, [])) (hne : l ≠ []) : listN l.length l = some [f] := by
  rw [listN_step hne _ (Nat.le_refl _), h]
  rfl

theorem known_list (k : Nat) : list_ (kB k) = some (kF k) := by
  have h0 : list_ [0, 0, 1] = some [fPad2, fPing] := by
    unfold list_
    rw [if_neg (by simp), listN_step (by simp) _ (Nat.le_refl _), fr_pad2]
    simp only
    rw [list_last fr_ping (by simp)]
    rfl
  have h1 : list_ [2, 10, 5, 1, 2, 0, 3] = some [fAck1] := by
    unfold list_
    rw [if_neg (by simp), list_last fr_ack1 (by simp)]
  have h2 : list_ [0x0f, 4, 2, 1, 120] = some [fStr1] := by
    unfold list_
    rw [if_neg (by simp), list_last fr_str1 (by simp)]
  have h3 : list_ [0x0c, 4, 2, 120, 121] = some [fStr2] := by
    unfold list_
    rw [if_neg (by simp), list_last fr_str2 (by simp)]
  match k with
  | 0 => exact h0
  | 1 => exact h1
  | 2 => exact h2
  | k + 3 => exact h3

theorem known_none (k : Nat) : list_ (kN k) = none := by
  have hn : ∀ {l : List UInt8}, l ≠ [] → frame_ l = none → list_ l = none := fun hne h => by
    unfold list_
    rw [if_neg hne, listN_step hne _ (Nat.le_refl _), h]
  match k with
  | 0 => exact hn (by simp [kN]) fr_no1
  | 1 => exact hn (by simp [kN]) fr_no2
  | 2 => exact hn (by simp [kN]) fr_no3
  | 3 => exact hn (by simp [kN]) fr_no4
  | k + 4 => exact if_pos rfl
end

section
open Go.RowKit
set_option linter.unusedVariables false

def kTab (w : World) : World := ((((((((((((w.alloc (.cells #[.int .u8 0, .int .u8 0, .int .u8 1] 5)).alloc (.cells #[.int .u64 0, .int .u64 0, .int .u64 0, .int .u64 0, .int .u64 0, .int .u64 2, .bool false, .slice none 0 0, .slice none 0 0, .int .u8 0, .int .u8 0, .int .u8 0, .int .u8 0, .int .u8 0, .int .u8 0, .int .u8 0, .int .u8 0, .int .u8 0, .int .u8 0, .int .u8 0, .int .u8 0, .int .u8 0, .int .u8 0, .int .u8 0, .int .u8 0, .slice none 0 0, .int .u64 0, .int .u64 0, .int .u64 0, .int .u64 0, .int .u64 1, .int .u64 0, .int .u64 0, .int .u64 0, .int .u64 0, .int .u64 0, .bool false, .slice none 0 0, .slice none 0 0, .int .u8 0, .int .u8 0, .int .u8 0, .int .u8 0, .int .u8 0, .int .u8 0, .int .u8 0, .int .u8 0, .int .u8 0, .int .u8 0, .int .u8 0, .int .u8 0, .int .u8 0, .int .u8 0, .int .u8 0, .int .u8 0, .slice none 0 0, .int .u64 0, .int .u64 0, .int .u64 0, .int .u64 0] 32)).alloc (.cells #[.int .u8 2, .int .u8 10, .int .u8 5, .int .u8 1, .int .u8 2, .int .u8 0, .int .u8 3] 5)).alloc (.cells #[.int .u64 3, .int .u64 7, .int .u64 8, .int .u64 11] 55)).alloc (.cells #[.int .u64 2, .int .u64 0, .int .u64 0, .int .u64 0, .int .u64 0, .int .u64 0, .bool false, .slice none 0 0, .slice none 0 0, .int .u8 0, .int .u8 0, .int .u8 0, .int .u8 0, .int .u8 0, .int .u8 0, .int .u8 0, .int .u8 0, .int .u8 0, .int .u8 0, .int .u8 0, .int .u8 0, .int .u8 0, .int .u8 0, .int .u8 0, .int .u8 0, .slice (some ⟨w.heap.size + 1 + 1 + 1, 0, none⟩) 2 2, .int .u64 5, .int .u64 0, .int .u64 0, .int .u64 0] 32)).alloc (.cells #[.int .u8 15, .int .u8 4, .int .u8 2, .int .u8 1, .int .u8 120] 5)).alloc (.cells #[.int .u8 120] 5 (1, 2))).alloc (.cells #[.int .u64 8, .int .u64 4, .int .u64 2, .int .u64 0, .int .u64 0, .int .u64 0, .bool true, .slice (some ⟨w.heap.size + 1 + 1 + 1 + 1 + 1 + 1, 0, none⟩) 1 1, .slice none 0 0, .int .u8 0, .int .u8 0, .int .u8 0, .int .u8 0, .int .u8 0, .int .u8 0, .int .u8 0, .int .u8 0, .int .u8 0, .int .u8 0, .int .u8 0, .int .u8 0, .int .u8 0, .int .u8 0, .int .u8 0, .int .u8 0, .slice none 0 0, .int .u64 0, .int .u64 0, .int .u64 0, .int .u64 0] 32)).alloc (.cells #[.int .u8 12, .int .u8 4, .int .u8 2, .int .u8 120, .int .u8 121] 5)).alloc (.cells #[.int .u8 120, .int .u8 121] 5 (2, 3))).alloc (.cells #[.int .u64 8, .int .u64 4, .int .u64 2, .int .u64 0, .int .u64 0, .int .u64 0, .bool false, .slice (some ⟨w.heap.size + 1 + 1 + 1 + 1 + 1 + 1 + 1 + 1 + 1, 0, none⟩) 2 2, .slice none 0 0, .int .u8 0, .int .u8 0, .int .u8 0, .int .u8 0, .int .u8 0, .int .u8 0, .int .u8 0, .int .u8 0, .int .u8 0, .int .u8 0, .int .u8 0, .int .u8 0, .int .u8 0, .int .u8 0, .int .u8 0, .int .u8 0, .slice none 0 0, .int .u64 0, .int .u64 0, .int .u64 0, .int .u64 0] 32)).alloc (.cells #[.slice (some ⟨w.heap.size, 0, none⟩) 3 3, .slice (some ⟨w.heap.size + 1, 0, none⟩) 2 2, .slice (some ⟨w.heap.size + 1 + 1, 0, none⟩) 7 7, .slice (some ⟨w.heap.size + 1 + 1 + 1 + 1, 0, none⟩) 1 1, .slice (some ⟨w.heap.size + 1 + 1 + 1 + 1 + 1, 0, none⟩) 5 5, .slice (some ⟨w.heap.size + 1 + 1 + 1 + 1 + 1 + 1 + 1, 0, none⟩) 1 1, .slice (some ⟨w.heap.size + 1 + 1 + 1 + 1 + 1 + 1 + 1 + 1, 0, none⟩) 5 5, .slice (some ⟨w.heap.size + 1 + 1 + 1 + 1 + 1 + 1 + 1 + 1 + 1 + 1, 0, none⟩) 1 1] 53))

set_option maxRecDepth 100000 in
theorem kTab_size (w : World) : (kTab w).heap.size = w.heap.size + 12 := by simp [kTab]

theorem kTab_below (w : World) : Below w.heap.size w (kTab w) := by
  unfold kTab
  exact (((((((((((((Below.refl _ _).alloc (by simp) _).alloc (by simp) _).alloc (by simp; omega) _).alloc (by simp; omega) _).alloc (by simp; omega) _).alloc (by simp; omega) _).alloc (by simp; omega) _).alloc (by simp; omega) _).alloc (by simp; omega) _).alloc (by simp; omega) _).alloc (by simp; omega) _).alloc (by simp; omega) _)

theorem blk_old {w : World} {k : Nat} {o : Obj} (h : w.heap[k]? = some o) (o' : Obj) : (w.alloc o').heap[k]? = some o := by
  have hk := (Array.getElem?_eq_some_iff.1 h).1
  show (w.heap.push o')[k]? = some o
  rw [Array.getElem?_push, if_neg (by omega)]
  exact h

theorem blk_new (w : World) (o : Obj) {k : Nat} (hk : k = w.heap.size) : (w.alloc o).heap[k]? = some o := by
  subst hk
  show (w.heap.push o)[w.heap.size]? = some o
  simp

theorem kTab_0 (w : World) : (kTab w).heap[w.heap.size]? = some (.cells #[.int .u8 0, .int .u8 0, .int .u8 1] 5) := by
  unfold kTab
  exact blk_old (blk_old (blk_old (blk_old (blk_old (blk_old (blk_old (blk_old (blk_old (blk_old (blk_old (blk_new _ _ (by simp)) _) _) _) _) _) _) _) _) _) _) _

theorem kTab_1 (w : World) : (kTab w).heap[w.heap.size + 1]? = some (.cells #[.int .u64 0, .int .u64 0, .int .u64 0, .int .u64 0, .int .u64 0, .int .u64 2, .bool false, .slice none 0 0, .slice none 0 0, .int .u8 0, .int .u8 0, .int .u8 0, .int .u8 0, .int .u8 0, .int .u8 0, .int .u8 0, .int .u8 0, .int .u8 0, .int .u8 0, .int .u8 0, .int .u8 0, .int .u8 0, .int .u8 0, .int .u8 0, .int .u8 0, .slice none 0 0, .int .u64 0, .int .u64 0, .int .u64 0, .int .u64 0, .int .u64 1, .int .u64 0, .int .u64 0, .int .u64 0, .int .u64 0, .int .u64 0, .bool false, .slice none 0 0, .slice none 0 0, .int .u8 0, .int .u8 0, .int .u8 0, .int .u8 0, .int .u8 0, .int .u8 0, .int .u8 0, .int .u8 0, .int .u8 0, .int .u8 0, .int .u8 0, .int .u8 0, .int .u8 0, .int .u8 0, .int .u8 0, .int .u8 0, .slice none 0 0, .int .u64 0, .int .u64 0, .int .u64 0, .int .u64 0] 32) := by
  unfold kTab
  exact blk_old (blk_old (blk_old (blk_old (blk_old (blk_old (blk_old (blk_old (blk_old (blk_old (blk_new _ _ (by simp)) _) _) _) _) _) _) _) _) _) _

theorem kTab_2 (w : World) : (kTab w).heap[w.heap.size + 1 + 1]? = some (.cells #[.int .u8 2, .int .u8 10, .int .u8 5, .int .u8 1, .int .u8 2, .int .u8 0, .int .u8 3] 5) := by
  unfold kTab
  exact blk_old (blk_old (blk_old (blk_old (blk_old (blk_old (blk_old (blk_old (blk_old (blk_new _ _ (by simp)) _) _) _) _) _) _) _) _) _

theorem kTab_3 (w : World) : (kTab w).heap[w.heap.size + 1 + 1 + 1]? = some (.cells #[.int .u64 3, .int .u64 7, .int .u64 8, .int .u64 11] 55) := by
  unfold kTab
  exact blk_old (blk_old (blk_old (blk_old (blk_old (blk_old (blk_old (blk_old (blk_new _ _ (by simp)) _) _) _) _) _) _) _) _

theorem kTab_4 (w : World) : (kTab w).heap[w.heap.size + 1 + 1 + 1 + 1]? = some (.cells #[.int .u64 2, .int .u64 0, .int .u64 0, .int .u64 0, .int .u64 0, .int .u64 0, .bool false, .slice none 0 0, .slice none 0 0, .int .u8 0, .int .u8 0, .int .u8 0, .int .u8 0, .int .u8 0, .int .u8 0, .int .u8 0, .int .u8 0, .int .u8 0, .int .u8 0, .int .u8 0, .int .u8 0, .int .u8 0, .int .u8 0, .int .u8 0, .int .u8 0, .slice (some ⟨w.heap.size + 1 + 1 + 1, 0, none⟩) 2 2, .int .u64 5, .int .u64 0, .int .u64 0, .int .u64 0] 32) := by
  unfold kTab
  exact blk_old (blk_old (blk_old (blk_old (blk_old (blk_old (blk_old (blk_new _ _ (by simp)) _) _) _) _) _) _) _

theorem kTab_5 (w : World) : (kTab w).heap[w.heap.size + 1 + 1 + 1 + 1 + 1]? = some (.cells #[.int .u8 15, .int .u8 4, .int .u8 2, .int .u8 1, .int .u8 120] 5) := by
  unfold kTab
  exact blk_old (blk_old (blk_old (blk_old (blk_old (blk_old (blk_new _ _ (by simp)) _) _) _) _) _) _

theorem kTab_6 (w : World) : (kTab w).heap[w.heap.size + 1 + 1 + 1 + 1 + 1 + 1]? = some (.cells #[.int .u8 120] 5 (1, 2)) := by
  unfold kTab
  exact blk_old (blk_old (blk_old (blk_old (blk_old (blk_new _ _ (by simp)) _) _) _) _) _

theorem kTab_7 (w : World) : (kTab w).heap[w.heap.size + 1 + 1 + 1 + 1 + 1 + 1 + 1]? = some (.cells #[.int .u64 8, .int .u64 4, .int .u64 2, .int .u64 0, .int .u64 0, .int .u64 0, .bool true, .slice (some ⟨w.heap.size + 1 + 1 + 1 + 1 + 1 + 1, 0, none⟩) 1 1, .slice none 0 0, .int .u8 0, .int .u8 0, .int .u8 0, .int .u8 0, .int .u8 0, .int .u8 0, .int .u8 0, .int .u8 0, .int .u8 0, .int .u8 0, .int .u8 0, .int .u8 0, .int .u8 0, .int .u8 0, .int .u8 0, .int .u8 0, .slice none 0 0, .int .u64 0, .int .u64 0, .int .u64 0, .int .u64 0] 32) := by
  unfold kTab
  exact blk_old (blk_old (blk_old (blk_old (blk_new _ _ (by simp)) _) _) _) _

theorem kTab_8 (w : World) : (kTab w).heap[w.heap.size + 1 + 1 + 1 + 1 + 1 + 1 + 1 + 1]? = some (.cells #[.int .u8 12, .int .u8 4, .int .u8 2, .int .u8 120, .int .u8 121] 5) := by
  unfold kTab
  exact blk_old (blk_old (blk_old (blk_new _ _ (by simp)) _) _) _

theorem kTab_9 (w : World) : (kTab w).heap[w.heap.size + 1 + 1 + 1 + 1 + 1 + 1 + 1 + 1 + 1]? = some (.cells #[.int .u8 120, .int .u8 121] 5 (2, 3)) := by
  unfold kTab
  exact blk_old (blk_old (blk_new _ _ (by simp)) _) _

theorem kTab_10 (w : World) : (kTab w).heap[w.heap.size + 1 + 1 + 1 + 1 + 1 + 1 + 1 + 1 + 1 + 1]? = some (.cells #[.int .u64 8, .int .u64 4, .int .u64 2, .int .u64 0, .int .u64 0, .int .u64 0, .bool false, .slice (some ⟨w.heap.size + 1 + 1 + 1 + 1 + 1 + 1 + 1 + 1 + 1, 0, none⟩) 2 2, .slice none 0 0, .int .u8 0, .int .u8 0, .int .u8 0, .int .u8 0, .int .u8 0, .int .u8 0, .int .u8 0, .int .u8 0, .int .u8 0, .int .u8 0, .int .u8 0, .int .u8 0, .int .u8 0, .int .u8 0, .int .u8 0, .int .u8 0, .slice none 0 0, .int .u64 0, .int .u64 0, .int .u64 0, .int .u64 0] 32) := by
  unfold kTab
  exact blk_old (blk_new _ _ (by simp)) _

theorem kTab_11 (w : World) : (kTab w).heap[w.heap.size + 1 + 1 + 1 + 1 + 1 + 1 + 1 + 1 + 1 + 1 + 1]? = some (.cells #[.slice (some ⟨w.heap.size, 0, none⟩) 3 3, .slice (some ⟨w.heap.size + 1, 0, none⟩) 2 2, .slice (some ⟨w.heap.size + 1 + 1, 0, none⟩) 7 7, .slice (some ⟨w.heap.size + 1 + 1 + 1 + 1, 0, none⟩) 1 1, .slice (some ⟨w.heap.size + 1 + 1 + 1 + 1 + 1, 0, none⟩) 5 5, .slice (some ⟨w.heap.size + 1 + 1 + 1 + 1 + 1 + 1 + 1, 0, none⟩) 1 1, .slice (some ⟨w.heap.size + 1 + 1 + 1 + 1 + 1 + 1 + 1 + 1, 0, none⟩) 5 5, .slice (some ⟨w.heap.size + 1 + 1 + 1 + 1 + 1 + 1 + 1 + 1 + 1 + 1, 0, none⟩) 1 1] 53) := by
  unfold kTab
  exact blk_new _ _ (by simp)

def kTab2 (w : World) : World := ((((((w.alloc (.cells #[.int .u8 31] 5)).alloc (.cells #[.int .u8 2, .int .u8 1, .int .u8 0, .int .u8 0, .int .u8 2] 5)).alloc (.cells #[.int .u8 7, .int .u8 0] 5)).alloc (.cells #[.int .u8 64, .int .u8 1] 5)).alloc (.cells #[] 5)).alloc (.cells #[.slice (some ⟨w.heap.size, 0, none⟩) 1 1, .slice (some ⟨w.heap.size + 1, 0, none⟩) 5 5, .slice (some ⟨w.heap.size + 1 + 1, 0, none⟩) 2 2, .slice (some ⟨w.heap.size + 1 + 1 + 1, 0, none⟩) 2 2, .slice (some ⟨w.heap.size + 1 + 1 + 1 + 1, 0, none⟩) 0 0] 22))

theorem kTab2_size (w : World) : (kTab2 w).heap.size = w.heap.size + 6 := by simp [kTab2]

theorem kTab2_below (w : World) : Below w.heap.size w (kTab2 w) := by
  unfold kTab2
  exact ((((((Below.refl _ _).alloc (by simp) _).alloc (by simp) _).alloc (by simp; omega) _).alloc (by simp; omega) _).alloc (by simp; omega) _).alloc (by simp; omega) _

theorem kTab2_0 (w : World) : (kTab2 w).heap[w.heap.size]? = some (.cells #[.int .u8 31] 5) := by
  unfold kTab2
  exact blk_old (blk_old (blk_old (blk_old (blk_old (blk_new _ _ (by simp)) _) _) _) _) _

theorem kTab2_1 (w : World) : (kTab2 w).heap[w.heap.size + 1]? = some (.cells #[.int .u8 2, .int .u8 1, .int .u8 0, .int .u8 0, .int .u8 2] 5) := by
  unfold kTab2
  exact blk_old (blk_old (blk_old (blk_old (blk_new _ _ (by simp)) _) _) _) _

theorem kTab2_2 (w : World) : (kTab2 w).heap[w.heap.size + 1 + 1]? = some (.cells #[.int .u8 7, .int .u8 0] 5) := by
  unfold kTab2
  exact blk_old (blk_old (blk_old (blk_new _ _ (by simp)) _) _) _

theorem kTab2_3 (w : World) : (kTab2 w).heap[w.heap.size + 1 + 1 + 1]? = some (.cells #[.int .u8 64, .int .u8 1] 5) := by
  unfold kTab2
  exact blk_old (blk_old (blk_new _ _ (by simp)) _) _

theorem kTab2_4 (w : World) : (kTab2 w).heap[w.heap.size + 1 + 1 + 1 + 1]? = some (.cells #[] 5) := by
  unfold kTab2
  exact blk_old (blk_new _ _ (by simp)) _

theorem kTab2_5 (w : World) : (kTab2 w).heap[w.heap.size + 1 + 1 + 1 + 1 + 1]? = some (.cells #[.slice (some ⟨w.heap.size, 0, none⟩) 1 1, .slice (some ⟨w.heap.size + 1, 0, none⟩) 5 5, .slice (some ⟨w.heap.size + 1 + 1, 0, none⟩) 2 2, .slice (some ⟨w.heap.size + 1 + 1 + 1, 0, none⟩) 2 2, .slice (some ⟨w.heap.size + 1 + 1 + 1 + 1, 0, none⟩) 0 0] 22) := by
  unfold kTab2
  exact blk_new _ _ (by simp)
end

section
open Go.RowKit
set_option linter.unusedVariables false

theorem sl_blk {w : World} {g : Nat} {cs : Array Value} {t : TypeId} {fr : Nat × Nat} {l : List UInt8} (h : w.heap[g]? = some (.cells cs t fr)) (hc : (l.map cell8).toArray = cs) : Sl w w.heap.size (some ⟨g, 0, none⟩) l :=
  fun _ => ⟨g, 0, rfl, (Array.getElem?_eq_some_iff.1 h).1, fun i v hv => by
    rw [Nat.zero_add, Joins.cell_of_block h, ← hc]
    simpa using hv⟩

theorem sr_blk {w : World} {g : Nat} {cs : Array Value} {t : TypeId} {fr : Nat × Nat} {l : List (Nat × Nat)} (h : w.heap[g]? = some (.cells cs t fr))
    (hc : ∀ i x, l[i]? = some x → cs[0 + i * 2]? = some (.int .u64 (x.1 : Int)) ∧ cs[0 + i * 2 + 1]? = some (.int .u64 (x.2 : Int))) : Sr w w.heap.size (some ⟨g, 0, none⟩) l :=
  fun _ => ⟨g, 0, rfl, (Array.getElem?_eq_some_iff.1 h).1, fun i x hx => by
    rw [Joins.cell_of_block h, Joins.cell_of_block h]
    exact hc i x hx⟩

theorem sf_blk {w : World} {g : Nat} {cs : Array Value} {t : TypeId} {fr : Nat × Nat} {l : List (PF × SA)} (h : w.heap[g]? = some (.cells cs t fr)) (hc : (l.flatMap fun x => rowF x.1 x.2).toArray = cs) (hf : ∀ x ∈ l, FrAt w w.heap.size x.1 x.2) : Sf w w.heap.size (some ⟨g, 0, none⟩) l :=
  fun _ => ⟨g, 0, rfl, (Array.getElem?_eq_some_iff.1 h).1, fun i x hx => ⟨fun j u hu => by
    rw [Nat.zero_add, Joins.cell_of_block h, ← hc]
    have := flat30 (fun x hx => rowF_length x.2 (hf x hx).tok) hx hu
    simpa using this, hf x (List.mem_of_getElem? hx)⟩⟩

/-- A row: where its bytes and its frames lie. -/
def KRow (w : World) (gT k : Nat) (l : List UInt8) (fs : List PF) : Prop :=
  ∃ A n A2 m xs, w.cell? ⟨gT, k * 2, none⟩ = some (.slice A n n) ∧ w.cell? ⟨gT, k * 2 + 1, none⟩ = some (.slice A2 m m) ∧ l.length = n ∧ n ≤ 16 ∧ Sl w w.heap.size A l ∧ xs.map (·.1) = fs ∧ xs.length = m ∧ m ≤ 2 ∧ Sf w w.heap.size A2 xs

def sD (g n : Nat) : SA := { zA with dA := some ⟨g, 0, none⟩, dc := n }
def sK (g n : Nat) : SA := { zA with aA := some ⟨g, 0, none⟩, ac := n }

theorem fr_none {w : World} (f : PF) (hd : f.data = []) (hc : f.cid = []) (ha : f.acks = []) (ht : f.token.length = 16) (hn : f.kind < big ∧ f.id < big ∧ f.off < big ∧ f.max < big ∧ f.code < big ∧ f.n < big ∧ f.delay < big ∧ f.e0 < big ∧ f.e1 < big ∧ f.e2 < big) : FrAt w w.heap.size f zA :=
  ⟨ht, fun h => absurd (by rw [hd]; rfl) h, fun h => absurd (by rw [hc]; rfl) h, fun h => absurd ha h, by rw [hd]; exact Nat.zero_le _, by simp [zA, maxLen], by rw [hd]; exact Nat.zero_le _, by rw [hc]; exact Nat.zero_le _, by simp [zA, maxLen], by rw [hc]; exact Nat.zero_le _,
    by rw [ha]; exact Nat.zero_le _, by simp [zA, maxLen], by rw [ha]; exact Nat.zero_le _, hn, fun x hx => by rw [ha] at hx; cases hx⟩

theorem fr_data {w : World} (f : PF) (g : Nat) (hd : Sl w w.heap.size (some ⟨g, 0, none⟩) f.data) (hl : f.data.length ≤ 16) (hc : f.cid = []) (ha : f.acks = []) (ht : f.token.length = 16) (hn : f.kind < big ∧ f.id < big ∧ f.off < big ∧ f.max < big ∧ f.code < big ∧ f.n < big ∧ f.delay < big ∧ f.e0 < big ∧ f.e1 < big ∧ f.e2 < big) : FrAt w w.heap.size f (sD g f.data.length) :=
  ⟨ht, hd, fun h => absurd (by rw [hc]; rfl) h, fun h => absurd ha h, Nat.le_refl _, by simp only [sD, maxLen]; omega, by omega, by rw [hc]; exact Nat.zero_le _, by simp [sD, zA, maxLen], by rw [hc]; exact Nat.zero_le _,
    by rw [ha]; exact Nat.zero_le _, by simp [sD, zA, maxLen], by rw [ha]; exact Nat.zero_le _, hn, fun x hx => by rw [ha] at hx; cases hx⟩

theorem fr_acks {w : World} (f : PF) (g : Nat) (hs : Sr w w.heap.size (some ⟨g, 0, none⟩) f.acks) (hl : f.acks.length ≤ 16) (hd : f.data = []) (hc : f.cid = []) (ht : f.token.length = 16) (hn : f.kind < big ∧ f.id < big ∧ f.off < big ∧ f.max < big ∧ f.code < big ∧ f.n < big ∧ f.delay < big ∧ f.e0 < big ∧ f.e1 < big ∧ f.e2 < big)
    (hx : ∀ x ∈ f.acks, x.1 < big ∧ x.2 < big) : FrAt w w.heap.size f (sK g f.acks.length) :=
  ⟨ht, fun h => absurd (by rw [hd]; rfl) h, fun h => absurd (by rw [hc]; rfl) h, hs, by rw [hd]; exact Nat.zero_le _, by simp [sK, zA, maxLen], by rw [hd]; exact Nat.zero_le _, by rw [hc]; exact Nat.zero_le _, by simp [sK, zA, maxLen], by rw [hc]; exact Nat.zero_le _,
    Nat.le_refl _, by simp only [sK, maxLen]; omega, by omega, hn, hx⟩

theorem kTab_row (w : World) (k : Nat) (hk : k < 4) : KRow (kTab w) (w.heap.size + 1 + 1 + 1 + 1 + 1 + 1 + 1 + 1 + 1 + 1 + 1) k (kB k) (kF k) := by
  have ht := fun i => Joins.cell_of_block (kTab_11 w) i
  match k, hk with
  | 0, _ => exact ⟨_, 3, _, 2, [(fPad2, zA), (fPing, zA)], ht 0, ht 1, rfl, by omega, sl_blk (kTab_0 w) rfl, rfl, rfl, by omega, sf_blk (kTab_1 w) rfl (fun x hx => by
      simp only [List.mem_cons, List.not_mem_nil, or_false] at hx
      rcases hx with rfl | rfl
      · exact fr_none _ rfl rfl rfl rfl (by simp [fPad2, zP, big])
      · exact fr_none _ rfl rfl rfl rfl (by simp [fPing, zP, big]))⟩
  | 1, _ => exact ⟨_, 7, _, 1, [(fAck1, sK (w.heap.size + 1 + 1 + 1) 2)], ht 2, ht 3, rfl, by omega, sl_blk (kTab_2 w) rfl, rfl, rfl, by omega, sf_blk (kTab_4 w) rfl (fun x hx => by
      obtain rfl := List.mem_singleton.1 hx
      exact fr_acks fAck1 _ (sr_blk (kTab_3 w) (fun i x hx => by
        match i with
        | 0 => obtain rfl : (3, 7) = x := by simpa [fAck1] using hx
               exact ⟨rfl, rfl⟩
        | 1 => obtain rfl : (8, 11) = x := by simpa [fAck1] using hx
               exact ⟨rfl, rfl⟩
        | i + 2 => simp [fAck1] at hx)) (by simp [fAck1]) rfl rfl rfl (by simp [fAck1, zP, big]) (by simp [fAck1, big]))⟩
  | 2, _ => exact ⟨_, 5, _, 1, [(fStr1, sD (w.heap.size + 1 + 1 + 1 + 1 + 1 + 1) 1)], ht 4, ht 5, rfl, by omega, sl_blk (kTab_5 w) rfl, rfl, rfl, by omega, sf_blk (kTab_7 w) rfl (fun x hx => by
      obtain rfl := List.mem_singleton.1 hx
      exact fr_data fStr1 _ (sl_blk (kTab_6 w) rfl) (by simp [fStr1]) rfl rfl rfl (by simp [fStr1, zP, big]))⟩
  | 3, _ => exact ⟨_, 5, _, 1, [(fStr2, sD (w.heap.size + 1 + 1 + 1 + 1 + 1 + 1 + 1 + 1 + 1) 2)], ht 6, ht 7, rfl, by omega, sl_blk (kTab_8 w) rfl, rfl, rfl, by omega, sf_blk (kTab_10 w) rfl (fun x hx => by
      obtain rfl := List.mem_singleton.1 hx
      exact fr_data fStr2 _ (sl_blk (kTab_9 w) rfl) (by simp [fStr2]) rfl rfl rfl (by simp [fStr2, zP, big]))⟩

/-- A row of bytes alone. -/
def NRow (w : World) (gT k : Nat) (l : List UInt8) : Prop := ∃ A n, w.cell? ⟨gT, k, none⟩ = some (.slice A n n) ∧ l.length = n ∧ n ≤ 16 ∧ Sl w w.heap.size A l

theorem kTab2_row (w : World) (k : Nat) (hk : k < 5) : NRow (kTab2 w) (w.heap.size + 1 + 1 + 1 + 1 + 1) k (kN k) := by
  have ht := fun i => Joins.cell_of_block (kTab2_5 w) i
  match k, hk with
  | 0, _ => exact ⟨_, 1, ht 0, rfl, by omega, sl_blk (kTab2_0 w) rfl⟩
  | 1, _ => exact ⟨_, 5, ht 1, rfl, by omega, sl_blk (kTab2_1 w) rfl⟩
  | 2, _ => exact ⟨_, 2, ht 2, rfl, by omega, sl_blk (kTab2_2 w) rfl⟩
  | 3, _ => exact ⟨_, 2, ht 3, rfl, by omega, sl_blk (kTab2_3 w) rfl⟩
  | 4, _ => exact ⟨_, 0, ht 4, rfl, by omega, sl_blk (kTab2_4 w) rfl⟩
end

section
open Go.RowKit
set_option linter.unusedVariables false

theorem KRow.below {w w' : World} {gT k : Nat} {l : List UInt8} {fs : List PF} (h : KRow w gT k l fs) (hb : Below w.heap.size w w') : KRow w' gT k l fs := by
  obtain ⟨A, n, A2, m, xs, h1, h2, h3, h4, h5, h6, h7, h8, h9⟩ := h
  have hg : gT < w.heap.size := World.block_lt_of_cell? _ _ h1
  refine ⟨A, n, A2, m, xs, (hb.cell (p := ⟨gT, k * 2, none⟩) hg).trans h1, (hb.cell (p := ⟨gT, k * 2 + 1, none⟩) hg).trans h2, h3, h4, (h5.below hb).keep hb.size (fun _ _ => rfl), h6, h7, h8, fun hn => ?_⟩
  obtain ⟨b, off, e, hbk, hc⟩ := h9 hn
  refine ⟨b, off, e, Nat.lt_of_lt_of_le hbk hb.size, fun i x hx => ⟨fun j v hv => (hb.cell (p := ⟨b, off + i * 30 + j, none⟩) hbk).trans ((hc i x hx).1 j v hv), ?_⟩⟩
  have hf := (hc i x hx).2.below hb
  exact { hf with data := hf.data.keep hb.size (fun _ _ => rfl), cid := hf.cid.keep hb.size (fun _ _ => rfl), acks := hf.acks.keep hb.size (fun _ _ => rfl) }

theorem Sf.below {w w' : World} {A : Option Addr} {xs : List (PF × SA)} (h : Sf w w.heap.size A xs) (hb : Below w.heap.size w w') : Sf w' w'.heap.size A xs := fun hn => by
  obtain ⟨b, off, e, hbk, hc⟩ := h hn
  refine ⟨b, off, e, Nat.lt_of_lt_of_le hbk hb.size, fun i x hx => ⟨fun j v hv => (hb.cell (p := ⟨b, off + i * 30 + j, none⟩) hbk).trans ((hc i x hx).1 j v hv), ?_⟩⟩
  have hf := (hc i x hx).2.below hb
  exact { hf with data := hf.data.keep hb.size (fun _ _ => rfl), cid := hf.cid.keep hb.size (fun _ _ => rfl), acks := hf.acks.keep hb.size (fun _ _ => rfl) }

set_option maxRecDepth 100000 in
set_option maxHeartbeats 3200000 in
theorem fknown_any (w : World) (hT : PT w) :
    Calls Tryd.prog 6 #[] w fun e w' => e = .returned (.bool true) ∧ Below w.heap.size w w' := by
  have HT := Lib.hid hT
  have HROW := Lib.hid (kTab_row w)
  have HTB := Lib.hid (kTab_below w)
  have HTZ := Lib.hid (kTab_size w)
  obtain ⟨w1, hw1⟩ : ∃ w1, w1 = kTab w := ⟨_, rfl⟩
  rw [← hw1] at HROW HTB HTZ
  unfold kTab at hw1
  have HW1 := Lib.hid hw1
  clear hw1 hT
  have kc := fun (w : World) (C : Array Value) (n c g : Nat) (hg : g = w.heap.size) => Joins.run_convert_bytes_const_at (P := Tryd.prog) w 22 5 C n c g hg Tryd.underlying22 Tryd.underlying5
  go_enter Tryd.func6, Tryd.ntmps6
  go_upto_region 2 with fail
  clear kc
  rw [← HW1.out]
  clear HW1
  go_loopw [3, 4, 35] (fun v3 v4 i wr => ∃ k : Nat, k ≤ 4 ∧ i = .int .i64 (k : Int) ∧ Hid (Below w1.heap.size w1 wr)) (fun _ _ i _ => 4 - (intOf i).toNat)
  case atStart => exact ⟨0, Nat.zero_le _, rfl, Lib.hid (Below.refl _ _)⟩
  case round =>
    obtain ⟨k, hk, rfl, hb⟩ := hrel
    by_cases hlt : k < 4
    · have d1 : decide ((k : Int) < 4) = true := decide_eq_true (by omega)
      obtain ⟨A, n, A2, m, xs, c1, c2, hln, hn16, hsl, hxs, hxm, hm2, hsf⟩ := (HROW.out k hlt).below hb.out
      have hfl : (kF k).length = m := by rw [← hxs, List.length_map, hxm]
      have hbn : Below wr.heap.size wr (wr.alloc (.cells #[.slice A n n, .slice A2 m m] 53)) := (Below.refl _ _).alloc (Nat.le_refl _) _
      have hz1 := hb.out.size
      have hz2 := HTZ.out
      have hbw : Below w.heap.size w (wr.alloc (.cells #[.slice A n n, .slice A2 m m] 53)) := HTB.out.trans ((hb.out.trans (hbn.mono hz1)).mono HTB.out.size)
      have hbx := hb.out.trans (hbn.mono hz1)
      have hLA := list_any (kB k) A n n _ hln ((hsl.below hbn).keep hbn.size (fun _ _ => rfl)) (Nat.le_refl _) (by unfold maxLen; omega) (HT.out.below hbw HT.out.lt) (by omega)
      rw [known_list k] at hLA
      have HLA := Lib.hid hLA
      have HSF := Lib.hid (hsf.below hbn)
      have HXS := Lib.hid hxs
      have HXM := Lib.hid hxm
      have HBX := Lib.hid hbx
      have HFL := Lib.hid hfl
      clear hLA hsf hsl hln hxs hxm hbn hbw hbx hfl
      go_wp2_with fail
      have hq : (wr.alloc (.cells #[.slice A n n, .slice A2 m m] 53)).cell? ⟨wr.heap.size, 1, none⟩ = some (.slice A2 m m) := by simp
      generalize wr.alloc (.cells #[.slice A n n, .slice A2 m m] 53) = w2 at *
      have hql := World.block_lt_of_cell? _ _ hq
      refine HLA.out.mono ?_
      rintro e w4 ⟨hb4, Ac, cc, ys, he, hys, hsy, hyc, hcm⟩
      rw [HFL.out] at he
      subst he
      have hq4 := (hb4.cell (p := ⟨wr.heap.size, 1, none⟩) hql).trans hq
      have HSA := Lib.hid (samefall_yes Ac A2 m cc m ys xs w4 (hys.trans HXS.out.symm) (by have := congrArg List.length hys; rw [List.length_map, HFL.out] at this; exact this) hsy (HSF.out.below hb4) (by omega))
      have HB4 := Lib.hid (HBX.out.trans (hb4.mono HBX.out.size))
      clear hq hys hsy hb4 HLA HSF HXS
      go_wp2_with fail
      refine HSA.out.mono ?_
      rintro e w5 ⟨rfl, hb5⟩
      have HB5 := Lib.hid (HB4.out.trans (hb5.mono HB4.out.size))
      go_wp2_with fail
      refine ⟨⟨k + 1, by omega, by congr 1, HB5⟩, ?_⟩
      simp [intOf]
      omega
    · have d1 : decide ((k : Int) < 4) = false := decide_eq_false (by omega)
      have HB0 := Lib.hid (HTB.out.trans (hb.out.mono HTB.out.size))
      clear HROW hb
      have HROW2 := Lib.hid (kTab2_row wr)
      have HTB2 := Lib.hid (kTab2_below wr)
      have HTZ2 := Lib.hid (kTab2_size wr)
      obtain ⟨w2, hw2⟩ : ∃ w2, w2 = kTab2 wr := ⟨_, rfl⟩
      rw [← hw2] at HROW2 HTB2 HTZ2
      unfold kTab2 at hw2
      have HW2 := Lib.hid hw2
      clear hw2
      go_upto_region 9 with fail
      rw [← HW2.out]
      clear HW2
      generalize wr = wz at *
      go_loopw [6, 7, 8, 62] (fun v6 v7 v8 i wx => ∃ k : Nat, k ≤ 5 ∧ i = .int .i64 (k : Int) ∧ Hid (Below w2.heap.size w2 wx)) (fun _ _ _ i _ => 5 - (intOf i).toNat)
      case atStart => exact ⟨0, Nat.zero_le _, rfl, Lib.hid (Below.refl _ _)⟩
      case round =>
        obtain ⟨k, hk, rfl, hb⟩ := hrel
        have HBW := Lib.hid ((HB0.out.trans (HTB2.out.mono HB0.out.size)).trans (hb.out.mono (Nat.le_trans HB0.out.size HTB2.out.size)))
        by_cases hlt : k < 5
        · have d1 : decide ((k : Int) < 5) = true := decide_eq_true (by omega)
          obtain ⟨A, n, c1, hln, hn16, hsl⟩ := HROW2.out k hlt
          have hgl := World.block_lt_of_cell? _ _ c1
          have c2 := (hb.out.cell (p := ⟨wz.heap.size + 1 + 1 + 1 + 1 + 1, k, none⟩) hgl).trans c1
          have hLA := list_any (kN k) A n n wr hln ((hsl.below hb.out).keep hb.out.size (fun _ _ => rfl)) (Nat.le_refl _) (by unfold maxLen; omega) (HT.out.below HBW.out HT.out.lt) (by omega)
          rw [known_none k] at hLA
          have HLA := Lib.hid hLA
          clear hLA hsl hln c1
          go_wp2_with fail
          refine HLA.out.mono ?_
          rintro e w4 ⟨hb4, rfl⟩
          have HB4 := Lib.hid (hb.out.trans (hb4.mono hb.out.size))
          clear hb4 HLA
          go_wp2_with fail
          refine ⟨⟨k + 1, by omega, by congr 1, HB4⟩, ?_⟩
          simp [intOf]
          omega
        · have d1 : decide ((k : Int) < 5) = false := decide_eq_false (by omega)
          go_wp2_with fail
          go_ret
          exact ⟨rfl, HBW.out⟩
end

end Go.Proofs.YtkkojhkglcigmaaDoor
