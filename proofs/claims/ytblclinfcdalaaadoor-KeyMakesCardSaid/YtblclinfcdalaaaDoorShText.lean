/-
  Plain mathematics of layer 6: the state behind a text's whole blocks; a text that grows; a text's ending; the sum. No program is named here.
-/
import Derived.Test.YtblclinfcdalaaaDoorShSpec
namespace Go.Proofs.YtblclinfcdalaaaDoor
open Go.RowKit
set_option linter.unusedVariables false

def initS : S8 := ⟨0x6a09e667, 0xbb67ae85, 0x3c6ef372, 0xa54ff53a, 0x510e527f, 0x9b05688c, 0x1f83d9ab, 0x5be0cd19⟩

/-- The state behind n whole blocks of L. -/
def stB (ks : List W32) (L : List UInt8) : Nat → S8
  | 0 => initS
  | n + 1 => takeS ks (stB ks L n) ((L.drop (64 * n)).take 64)

theorem stB_app (ks : List W32) (L M : List UInt8) (n : Nat) (h : 64 * n ≤ L.length) : stB ks (L ++ M) n = stB ks L n := by
  induction n with
  | zero => rfl
  | succ n ih =>
    rw [stB, stB, ih (by omega), List.drop_append_of_le_length (by omega), List.take_append_of_le_length (by rw [List.length_drop]; omega)]

/-- A row as it is while a text comes: its state, a block, of which the first bytes are those that came last, how many came. -/
def TB (L : List UInt8) (blk : List UInt8) : Prop := blk.length = 64 ∧ blk.take (L.length % 64) = L.drop (64 * (L.length / 64))
def tRow (ks : List W32) (L : List UInt8) (blk : List UInt8) : Array Value := ((stB ks L (L.length / 64)).l.map cw ++ (blk.map cell8 ++ [Value.int .u64 (L.length : Int)])).toArray

/-- The block when x has been copied to it. -/
def putB (L blk x : List UInt8) : List UInt8 := blk.take (L.length % 64) ++ (x ++ blk.drop (L.length % 64 + x.length))

theorem putB_len {L blk x : List UInt8} (h : TB L blk) (hx : L.length % 64 + x.length ≤ 64) : (putB L blk x).length = 64 := by
  have := h.1
  simp [putB]; omega

theorem putB_take {L blk x : List UInt8} (h : TB L blk) (hx : L.length % 64 + x.length ≤ 64) : (putB L blk x).take (L.length % 64 + x.length) = (L ++ x).drop (64 * (L.length / 64)) := by
  have h1 := h.1
  have hl : (blk.take (L.length % 64)).length = L.length % 64 := by rw [List.length_take]; omega
  rw [putB, ← List.append_assoc, List.take_append_of_le_length (by rw [List.length_append, hl]; omega), List.take_of_length_le (by rw [List.length_append, hl]; omega), h.2, List.drop_append_of_le_length (by omega)]

/-- The block isn't full. -/
theorem TB.some_ {L blk x : List UInt8} (h : TB L blk) (hx : L.length % 64 + x.length < 64) : TB (L ++ x) (putB L blk x) ∧ ∀ ks, stB ks (L ++ x) ((L ++ x).length / 64) = stB ks L (L.length / 64) := by
  have e1 : (L ++ x).length / 64 = L.length / 64 := by rw [List.length_append]; omega
  have e2 : (L ++ x).length % 64 = L.length % 64 + x.length := by rw [List.length_append]; omega
  refine ⟨⟨putB_len h (by omega), ?_⟩, ?_⟩
  · rw [e1, e2]; exact putB_take h (by omega)
  · intro ks
    rw [e1]
    exact stB_app ks L x _ (by omega)

/-- The block is full. -/
theorem TB.full {L blk x : List UInt8} (ks : List W32) (h : TB L blk) (hx : L.length % 64 + x.length = 64) :
    TB (L ++ x) (putB L blk x) ∧ stB ks (L ++ x) ((L ++ x).length / 64) = takeS ks (stB ks L (L.length / 64)) (putB L blk x) := by
  have e1 : (L ++ x).length / 64 = L.length / 64 + 1 := by rw [List.length_append]; omega
  have e2 : (L ++ x).length % 64 = 0 := by rw [List.length_append]; omega
  have h64 := putB_take (x := x) h (by omega)
  rw [hx, List.take_of_length_le (by rw [putB_len (x := x) h (by omega)]; exact Nat.le_refl _)] at h64
  refine ⟨⟨putB_len h (by omega), ?_⟩, ?_⟩
  · rw [e1, e2, List.take_zero]
    have h3 : (L ++ x).length ≤ 64 * (L.length / 64 + 1) := by rw [List.length_append]; omega
    rw [List.drop_eq_nil_of_le h3]
  · rw [e1, stB, stB_app ks L x (L.length / 64) (by omega), ← h64, List.take_of_length_le (by rw [putB_len (x := x) h (by omega)]; exact Nat.le_refl _)]

theorem TB.zero : TB [] (List.replicate 64 0) := ⟨by simp, by simp⟩

/-- What stands behind a text: a byte 128, noughts, how many bits it has. -/
def endB (n : Nat) : List UInt8 := 128 :: (List.replicate ((119 - n % 64) % 64) 0 ++ be (8 * n) 8)

theorem endB_len (n : Nat) : (n + (endB n).length) % 64 = 0 := by
  simp [endB, be_length]; omega

/-- The words' bytes. -/
def byteW (x : W32) (k : Nat) : UInt8 := UInt8.ofNat (x.toNat / 256 ^ k % 256)
def bytesW (x : W32) : List UInt8 := [byteW x 3, byteW x 2, byteW x 1, byteW x 0]
def bytesS (s : S8) : List UInt8 := s.l.flatMap bytesW

theorem bytesS_len (s : S8) : (bytesS s).length = 32 := rfl
theorem bytesS_at (s : S8) (k : Nat) (hk : k < 32) : (bytesS s).getD k 0 = byteW (s.l.getD (k / 4) 0) (3 - k % 4) := by
  rcases k with _ | _ | _ | _ | _ | _ | _ | _ | _ | _ | _ | _ | _ | _ | _ | _ | _ | _ | _ | _ | _ | _ | _ | _ | _ | _ | _ | _ | _ | _ | _ | _ | k <;> first | rfl | omega

/-- The sum of a text, by the rounds' words ks. -/
def sumK (ks : List W32) (L : List UInt8) : List UInt8 := bytesS (stB ks (L ++ endB L.length) ((L ++ endB L.length).length / 64))

end Go.Proofs.YtblclinfcdalaaaDoor
