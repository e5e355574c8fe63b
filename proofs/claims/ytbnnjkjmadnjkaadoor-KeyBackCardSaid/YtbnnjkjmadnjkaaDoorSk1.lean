/-
  Layer 6's document in plain mathematics: a block's words, the rounds, a text's blocks, the sum. No program is named here.
  Plain mathematics of layer 6: the state behind a text's whole blocks; a text that grows; a text's ending; the sum. No program is named here.
  The rounds' words; the sums of the document's examples, reckoned.
  HMAC and HKDF as lists of bytes: the spec.
-/
import Derived.Test.YtbnnjkjmadnjkaaDoorSk0
import Derived.KernelRfl
namespace Go.Proofs.YtbnnjkjmadnjkaaDoor
section
open Go.RowKit

/-- A block's words behind k of its bytes: 64 places, of which 16 are filled. -/
def ldW (bs : List UInt8) : Nat → List W32
  | 0 => List.replicate 64 0
  | k + 1 => (ldW bs k).set (k / 4) (inB ((ldW bs k).getD (k / 4) 0) (bs.getD k 0))

theorem ldW_zero (bs : List UInt8) : ldW bs 0 = List.replicate 64 0 := rfl
theorem ldW_len (bs : List UInt8) (k : Nat) : (ldW bs k).length = 64 := by
  induction k with
  | zero => simp [ldW]
  | succ k ih => simp [ldW, ih]

def sig0 (x : W32) : W32 := rr x 7 ^^^ rr x 18 ^^^ sr x 3
def sig1 (x : W32) : W32 := rr x 17 ^^^ rr x 19 ^^^ sr x 10

theorem wi_sig0 (x : W32) : bits .xor .u32 (bits .xor .u32 (wi (rr x 7)) (wi (rr x 18))) (wi x / 8) = wi (sig0 x) := by
  have h := wi_shr x 3
  rw [show (2 : Int) ^ 3 = 8 by decide] at h
  rw [h, wi_xor, wi_xor]
  rfl
theorem wi_sig1 (x : W32) : bits .xor .u32 (bits .xor .u32 (wi (rr x 17)) (wi (rr x 19))) (wi x / 1024) = wi (sig1 x) := by
  have h := wi_shr x 10
  rw [show (2 : Int) ^ 10 = 1024 by decide] at h
  rw [h, wi_xor, wi_xor]
  rfl

/-- The word behind those that there are. -/
def nextW (l : List W32) : W32 := l.getD (l.length - 16) 0 + sig0 (l.getD (l.length - 15) 0) + l.getD (l.length - 7) 0 + sig1 (l.getD (l.length - 2) 0)
def schW (m : List W32) : Nat → List W32
  | 0 => m
  | n + 1 => schW m n ++ [nextW (schW m n)]

theorem schW_len (m : List W32) (n : Nat) : (schW m n).length = m.length + n := by
  induction n with
  | zero => rfl
  | succ n ih => simp [schW, ih]; omega

theorem ldW_drop (bs : List UInt8) (k : Nat) (hk : k ≤ 64) : (ldW bs k).drop 16 = List.replicate 48 0 := by
  induction k with
  | zero => simp [ldW]
  | succ k ih =>
    rw [ldW, List.drop_set_of_lt (by omega)]
    exact ih (by omega)

/-- A block's first 16 words. -/
def mW (bs : List UInt8) : List W32 := (ldW bs 64).take 16
theorem mW_len (bs : List UInt8) : (mW bs).length = 16 := by simp [mW, ldW_len]
theorem ldW_full (bs : List UInt8) : ldW bs 64 = schW (mW bs) 0 ++ List.replicate 48 0 := by
  rw [← ldW_drop bs 64 (Nat.le_refl _)]
  exact (List.take_append_drop 16 _).symm

/-- The words of a block. -/
def wsW (bs : List UInt8) : List W32 := schW (mW bs) 48
theorem wsW_len (bs : List UInt8) : (wsW bs).length = 64 := by simp [wsW, schW_len, mW_len]

/-- The row while it is filled. -/
theorem sch_set (l : List W32) (n t : Nat) (v : W32) (ht : l.length = t) : (l ++ List.replicate (n + 1) 0).set t v = l ++ [v] ++ List.replicate n 0 := by
  subst ht
  rw [List.set_append_right _ _ (Nat.le_refl _), Nat.sub_self, List.replicate_succ, List.set_cons_zero, List.append_assoc]
  rfl
theorem sch_get (l : List W32) (n j : Nat) (hj : j < l.length) : (l ++ List.replicate n 0)[j]? = some (l.getD j 0) := by
  rw [List.getElem?_append_left hj]
  simp [List.getD, hj]

/-- The words a to h. -/
structure S8 where
  a : W32
  b : W32
  c : W32
  d : W32
  e : W32
  f : W32
  g : W32
  h : W32

def S8.l (s : S8) : List W32 := [s.a, s.b, s.c, s.d, s.e, s.f, s.g, s.h]
def t1W (s : S8) (k w : W32) : W32 := s.h + mix3 s.e 6 11 25 + ((s.e &&& s.f) ^^^ (~~~s.e &&& s.g)) + k + w
def t2W (s : S8) : W32 := mix3 s.a 2 13 22 + ((s.a &&& s.b) ^^^ (s.a &&& s.c) ^^^ (s.b &&& s.c))
theorem wi_addm (x y : W32) : wi (x + y) = (wi x + wi y) % 4294967296 := (wi_add' x y).symm
theorem wi_t1 (s : S8) (k w : W32) :
    (wi s.h + wi (mix3 s.e 6 11 25) + bits .xor .u32 (bits .and .u32 (wi s.e) (wi s.f)) (bits .and .u32 (bits .xor .u32 (if IntKind.u32.signed = true then -1 else IntKind.u32.max) (wi s.e)) (wi s.g)) + wi k + wi w) % 4294967296 = wi (t1W s k w) := by
  rw [show (if IntKind.u32.signed = true then (-1 : Int) else IntKind.u32.max) = 4294967295 from rfl, wi_and, wi_not, wi_and, wi_xor]
  unfold t1W
  rw [wi_addm, wi_addm, wi_addm, wi_addm]
  omega
theorem wi_t2 (s : S8) :
    (wi (mix3 s.a 2 13 22) + bits .xor .u32 (bits .xor .u32 (bits .and .u32 (wi s.a) (wi s.b)) (bits .and .u32 (wi s.a) (wi s.c))) (bits .and .u32 (wi s.b) (wi s.c))) % 4294967296 = wi (t2W s) := by
  rw [wi_and, wi_and, wi_and, wi_xor, wi_xor, wi_add']
  rfl
/-- A round. -/
def rnd (s : S8) (k w : W32) : S8 := ⟨t1W s k w + t2W s, s.a, s.b, s.c, s.d + t1W s k w, s.e, s.f, s.g⟩
def rndN (ks ws : List W32) (s : S8) : Nat → S8
  | 0 => s
  | n + 1 => rnd (rndN ks ws s n) (ks.getD n 0) (ws.getD n 0)
def addS (s r : S8) : S8 := ⟨s.a + r.a, s.b + r.b, s.c + r.c, s.d + r.d, s.e + r.e, s.f + r.f, s.g + r.g, s.h + r.h⟩
/-- A block that is taken in. -/
def takeS (ks : List W32) (s : S8) (bs : List UInt8) : S8 := addS s (rndN ks (wsW bs) s 64)

theorem S8.len (s : S8) : s.l.length = 8 := rfl
theorem addS_at (s r : S8) (i : Nat) (hi : i < 8) : (addS s r).l.getD i 0 = s.l.getD i 0 + r.l.getD i 0 := by
  rcases i with _ | _ | _ | _ | _ | _ | _ | _ | i <;> first | rfl | omega

/-- The state while a block's words are added to it. -/
def midS (s r : S8) (i : Nat) : List W32 := (addS s r).l.take i ++ s.l.drop i
theorem midS_zero (s r : S8) : midS s r 0 = s.l := rfl
theorem midS_full (s r : S8) : midS s r 8 = (addS s r).l := rfl
theorem midS_len (s r : S8) (i : Nat) (hi : i ≤ 8) : (midS s r i).length = 8 := by
  simp [midS, S8.len]; omega
theorem midS_at (s r : S8) (i : Nat) (hi : i < 8) : (midS s r i)[i]? = some (s.l.getD i 0) := by
  rcases i with _ | _ | _ | _ | _ | _ | _ | _ | i <;> first | rfl | omega
theorem midS_step (s r : S8) (i : Nat) (hi : i < 8) : (midS s r i).set i (s.l.getD i 0 + r.l.getD i 0) = midS s r (i + 1) := by
  rcases i with _ | _ | _ | _ | _ | _ | _ | _ | i <;> first | rfl | omega
end

section
open Go.RowKit
set_option linter.unusedVariables false

def initS : S8 := ⟨0x6a09e667, 0xbb67ae85, 0x3c6ef372, 0xa54ff53a, 0x510e527f, 0x9b05688c, 0x1f83d9ab, 0x5be0cd19⟩

/-- The state behind n whole blocks of L. -/
def stB (ks : List W32) (L : List UInt8) : Nat → S8
  | 0 => initS
  | n + 1 => takeS ks (stB ks L n) ((L.drop (64 * n)).take 64)

theorem stB_app (ks : List W32) (L M : List UInt8) (n : Nat) (h : 64 * n ≤ L.length) : stB ks (L ++ M) n = stB ks L n := by
  induction n with
  | zero => rfl
  | succ n ih =>
    rw [stB, stB, ih (by omega), List.drop_append_of_le_length (by omega), List.take_append_of_le_length (by rw [List.length_drop]; omega)]

/-- A row as it is while a text comes: its state, a block, of which the first bytes are those that came last, how many came. -/
def TB (L : List UInt8) (blk : List UInt8) : Prop := blk.length = 64 ∧ blk.take (L.length % 64) = L.drop (64 * (L.length / 64))
def tRow (ks : List W32) (L : List UInt8) (blk : List UInt8) : Array Value := ((stB ks L (L.length / 64)).l.map cw ++ (blk.map cell8 ++ [Value.int .u64 (L.length : Int)])).toArray

/-- The block when x has been copied to it. -/
def putB (L blk x : List UInt8) : List UInt8 := blk.take (L.length % 64) ++ (x ++ blk.drop (L.length % 64 + x.length))

theorem putB_len {L blk x : List UInt8} (h : TB L blk) (hx : L.length % 64 + x.length ≤ 64) : (putB L blk x).length = 64 := by
  have := h.1
  simp [putB]; omega

theorem putB_take {L blk x : List UInt8} (h : TB L blk) (hx : L.length % 64 + x.length ≤ 64) : (putB L blk x).take (L.length % 64 + x.length) = (L ++ x).drop (64 * (L.length / 64)) := by
  have h1 := h.1
  have hl : (blk.take (L.length % 64)).length = L.length % 64 := by rw [List.length_take]; omega
  rw [putB, ← List.append_assoc, List.take_append_of_le_length (by rw [List.length_append, hl]; omega), List.take_of_length_le (by rw [List.length_append, hl]; omega), h.2, List.drop_append_of_le_length (by omega)]

/-- The block isn't full. -/
theorem TB.some_ {L blk x : List UInt8} (h : TB L blk) (hx : L.length % 64 + x.length < 64) : TB (L ++ x) (putB L blk x) ∧ ∀ ks, stB ks (L ++ x) ((L ++ x).length / 64) = stB ks L (L.length / 64) := by
  have e1 : (L ++ x).length / 64 = L.length / 64 := by rw [List.length_append]; omega
  have e2 : (L ++ x).length % 64 = L.length % 64 + x.length := by rw [List.length_append]; omega
  refine ⟨⟨putB_len h (by omega), ?_⟩, ?_⟩
  · rw [e1, e2]; exact putB_take h (by omega)
  · intro ks
    rw [e1]
    exact stB_app ks L x _ (by omega)

/-- The block is full. -/
theorem TB.full {L blk x : List UInt8} (ks : List W32) (h : TB L blk) (hx : L.length % 64 + x.length = 64) :
    TB (L ++ x) (putB L blk x) ∧ stB ks (L ++ x) ((L ++ x).length / 64) = takeS ks (stB ks L (L.length / 64)) (putB L blk x) := by
  have e1 : (L ++ x).length / 64 = L.length / 64 + 1 := by rw [List.length_append]; omega
  have e2 : (L ++ x).length % 64 = 0 := by rw [List.length_append]; omega
  have h64 := putB_take (x := x) h (by omega)
  rw [hx, List.take_of_length_le (by rw [putB_len (x := x) h (by omega)]; exact Nat.le_refl _)] at h64
  refine ⟨⟨putB_len h (by omega), ?_⟩, ?_⟩
  · rw [e1, e2, List.take_zero]
    have h3 : (L ++ x).length ≤ 64 * (L.length / 64 + 1) := by rw [List.length_append]; omega
    rw [List.drop_eq_nil_of_le h3]
  · rw [e1, stB, stB_app ks L x (L.length / 64) (by omega), ← h64, List.take_of_length_le (by rw [putB_len (x := x) h (by omega)]; exact Nat.le_refl _)]

theorem TB.zero : TB [] (List.replicate 64 0) := ⟨by simp, by simp⟩

/-- What stands behind a text: a byte 128, noughts, how many bits it has. -/
def endB (n : Nat) : List UInt8 := 128 :: (List.replicate ((119 - n % 64) % 64) 0 ++ be (8 * n) 8)

theorem endB_len (n : Nat) : (n + (endB n).length) % 64 = 0 := by
  simp [endB, be_length]; omega

/-- The words' bytes. -/
def byteW (x : W32) (k : Nat) : UInt8 := UInt8.ofNat (x.toNat / 256 ^ k % 256)
def bytesW (x : W32) : List UInt8 := [byteW x 3, byteW x 2, byteW x 1, byteW x 0]
def bytesS (s : S8) : List UInt8 := s.l.flatMap bytesW

theorem bytesS_len (s : S8) : (bytesS s).length = 32 := rfl
theorem bytesS_at (s : S8) (k : Nat) (hk : k < 32) : (bytesS s).getD k 0 = byteW (s.l.getD (k / 4) 0) (3 - k % 4) := by
  rcases k with _ | _ | _ | _ | _ | _ | _ | _ | _ | _ | _ | _ | _ | _ | _ | _ | _ | _ | _ | _ | _ | _ | _ | _ | _ | _ | _ | _ | _ | _ | _ | _ | k <;> first | rfl | omega

/-- The sum of a text, by the rounds' words ks. -/
def sumK (ks : List W32) (L : List UInt8) : List UInt8 := bytesS (stB ks (L ++ endB L.length) ((L ++ endB L.length).length / 64))
end

section
open Go.RowKit

def kNum : List Nat := [1116352408, 1899447441, 3049323471, 3921009573, 961987163, 1508970993, 2453635748, 2870763221, 3624381080, 310598401, 607225278, 1426881987, 1925078388, 2162078206, 2614888103, 3248222580, 3835390401, 4022224774, 264347078, 604807628, 770255983, 1249150122, 1555081692, 1996064986, 2554220882, 2821834349, 2952996808, 3210313671, 3336571891, 3584528711, 113926993, 338241895, 666307205, 773529912, 1294757372, 1396182291, 1695183700, 1986661051, 2177026350, 2456956037, 2730485921, 2820302411, 3259730800, 3345764771, 3516065817, 3600352804, 4094571909, 275423344, 430227734, 506948616, 659060556, 883997877, 958139571, 1322822218, 1537002063, 1747873779, 1955562222, 2024104815, 2227730452, 2361852424, 2428436474, 2756734187, 3204031479, 3329325298]
def kW : List W32 := kNum.map (BitVec.ofNat 32)
theorem kW_len : kW.length = 64 := rfl

theorem sum_abc : sumK kW [97, 98, 99] = [186, 120, 22, 191, 143, 1, 207, 234, 65, 65, 64, 222, 93, 174, 34, 35, 176, 3, 97, 163, 150, 23, 122, 156, 180, 16, 255, 97, 242, 0, 21, 173] := by decide +kernel
theorem sum_none : sumK kW [] = [227, 176, 196, 66, 152, 252, 28, 20, 154, 251, 244, 200, 153, 111, 185, 36, 39, 174, 65, 228, 100, 155, 147, 76, 164, 149, 153, 27, 120, 82, 184, 85] := by decide +kernel
end

section
set_option linter.unusedVariables false

/-- A key, or its sum. -/
def keyK (ks : List W32) (key : List UInt8) : List UInt8 := if 64 < key.length then sumK ks key else key
/-- A key's block. -/
def blockK (ks : List W32) (key : List UInt8) : List UInt8 := keyK ks key ++ List.replicate (64 - (keyK ks key).length) 0
def mixB (b : List UInt8) (o : UInt8) : List UInt8 := b.map (· ^^^ o)
/-- The MAC. -/
def macK (ks : List W32) (key text : List UInt8) : List UInt8 := sumK ks (mixB (blockK ks key) 92 ++ sumK ks (mixB (blockK ks key) 54 ++ text))
/-- T0 (nothing), T1, T2 .. -/
def tK (ks : List W32) (s info : List UInt8) : Nat → List UInt8
  | 0 => []
  | i + 1 => macK ks s (tK ks s info i ++ (info ++ [UInt8.ofNat (i + 1)]))
/-- T1 .. Ti, one behind the other. -/
def outK (ks : List W32) (s info : List UInt8) : Nat → List UInt8
  | 0 => []
  | i + 1 => outK ks s info i ++ tK ks s info (i + 1)
/-- What is expanded. -/
def expK (ks : List W32) (s info : List UInt8) (n : Nat) : List UInt8 := (outK ks s info ((n + 31) / 32)).take n
def expI (ks : List W32) (s info : List UInt8) (n : Int) : List UInt8 := if n < 1 ∨ 8160 < n then [] else expK ks s info n.toNat
/-- A label's info. -/
def labK (label ctx : List UInt8) (n : Nat) : List UInt8 := [UInt8.ofNat (n / 256), UInt8.ofNat n, UInt8.ofNat (6 + label.length), 116, 108, 115, 49, 51, 32] ++ (label ++ (UInt8.ofNat ctx.length :: ctx))
def labI (ks : List W32) (s label ctx : List UInt8) (n : Int) : List UInt8 := if n < 1 ∨ 8160 < n ∨ 249 < label.length ∨ 255 < ctx.length then [] else expK ks s (labK label ctx n.toNat) n.toNat

theorem sumK_32 (ks : List W32) (L : List UInt8) : (sumK ks L).length = 32 := bytesS_len _
theorem keyK_len (ks : List W32) (key : List UInt8) : (keyK ks key).length ≤ 64 := by
  unfold keyK; split
  · rw [sumK_32]; omega
  · omega
theorem blockK_len (ks : List W32) (key : List UInt8) : (blockK ks key).length = 64 := by
  unfold blockK; rw [List.length_append, List.length_replicate]; have := keyK_len ks key; omega
theorem mixB_len (b : List UInt8) (o : UInt8) : (mixB b o).length = b.length := List.length_map ..
theorem macK_len (ks : List W32) (key text : List UInt8) : (macK ks key text).length = 32 := sumK_32 _ _
theorem tK_len (ks : List W32) (s info : List UInt8) (i : Nat) : (tK ks s info (i + 1)).length = 32 := macK_len _ _ _
theorem tK_le (ks : List W32) (s info : List UInt8) (i : Nat) : (tK ks s info i).length ≤ 32 := by
  cases i with
  | zero => simp [tK]
  | succ i => rw [tK_len]; omega
theorem outK_len (ks : List W32) (s info : List UInt8) (i : Nat) : (outK ks s info i).length = 32 * i := by
  induction i with
  | zero => rfl
  | succ i ih => rw [outK, List.length_append, ih, tK_len]; omega
theorem expK_len (ks : List W32) (s info : List UInt8) (n : Nat) : (expK ks s info n).length = n := by
  unfold expK; rw [List.length_take, outK_len]; omega
theorem outK_pre (ks : List W32) (s info : List UInt8) (i j : Nat) (h : i ≤ j) : (outK ks s info j).take (32 * i) = outK ks s info i := by
  induction j with
  | zero => obtain rfl : i = 0 := by omega
            rfl
  | succ j ih =>
    rcases Nat.lt_or_ge j i with hj | hj
    · obtain rfl : i = j + 1 := by omega
      rw [← outK_len ks s info (j + 1), List.take_length]
    · rw [outK, List.take_append_of_le_length (by rw [outK_len]; omega), ih hj]
theorem outK_take (ks : List W32) (s info : List UInt8) (n i : Nat) (h : n ≤ 32 * i) : (outK ks s info i).take n = expK ks s info n := by
  have hi : (n + 31) / 32 ≤ i := by omega
  unfold expK
  rw [← outK_pre ks s info _ i hi, List.take_take, Nat.min_eq_left (by omega)]
/-- Fewer bytes are the first ones of more. -/
theorem expK_first (ks : List W32) (s info : List UInt8) (n m : Nat) (h : n ≤ m) : (expK ks s info m).take n = expK ks s info n := by
  rw [expK, List.take_take, Nat.min_eq_left h, outK_take _ _ _ _ _ (by omega)]
/-- What is out behind i blocks, cut to n bytes. -/
theorem exp_step (ks : List W32) (s info : List UInt8) (n i : Nat) (h : 32 * i < n) :
    (outK ks s info (i + 1)).take n = (outK ks s info i).take n ++ (tK ks s info (i + 1)).take (min 32 (n - 32 * i)) := by
  rw [outK, List.take_append, outK_len]
  congr 1
  rcases Nat.le_total 32 (n - 32 * i) with h1 | h1
  · rw [Nat.min_eq_left h1, List.take_of_length_le (by rw [tK_len]; exact h1), List.take_of_length_le (by rw [tK_len]; omega)]
  · rw [Nat.min_eq_right h1]

/-- A key of more than 64 bytes is as its sum. -/
theorem keyK_sum (ks : List W32) (key : List UInt8) (h : 64 < key.length) : blockK ks (sumK ks key) = blockK ks key := by
  have h1 : keyK ks (sumK ks key) = sumK ks key := if_neg (by rw [sumK_32]; omega)
  have h2 : keyK ks key = sumK ks key := if_pos h
  unfold blockK
  rw [h1, h2]
theorem macK_sum (ks : List W32) (key text : List UInt8) (h : 64 < key.length) : macK ks (sumK ks key) text = macK ks key text := by
  unfold macK
  rw [keyK_sum ks key h]
/-- One of fewer as with a nought behind. -/
theorem blockK_zero (ks : List W32) (key : List UInt8) (h : key.length < 64) : blockK ks (key ++ [0]) = blockK ks key := by
  have h1 : keyK ks (key ++ [0]) = key ++ [0] := if_neg (by rw [List.length_append, List.length_singleton]; omega)
  have h2 : keyK ks key = key := if_neg (by omega)
  unfold blockK
  rw [h1, h2, List.length_append, List.length_singleton, List.append_assoc]
  congr 1
  obtain ⟨k, hk⟩ : ∃ k, 64 - key.length = k + 1 := ⟨63 - key.length, by omega⟩
  rw [hk, show 64 - (key.length + 1) = k by omega, List.replicate_succ]
  rfl
theorem macK_zero (ks : List W32) (key text : List UInt8) (h : key.length < 64) : macK ks (key ++ [0]) text = macK ks key text := by
  unfold macK
  rw [blockK_zero ks key h]
/-- A block's bytes one by one. -/
theorem blockK_at (ks : List W32) (key : List UInt8) (i : Nat) (h : i < 64) : (blockK ks key).getD i 0 = (keyK ks key).getD i 0 := by
  unfold blockK
  rw [List.getD_eq_getElem?_getD, List.getD_eq_getElem?_getD, List.getElem?_append]
  split
  · rfl
  · rename_i h1
    rw [List.getElem?_replicate, if_pos (by omega), List.getElem?_eq_none (by omega)]
    rfl

theorem mac_hi : macK kW (List.replicate 20 11) [72, 105, 32, 84, 104, 101, 114, 101] = [176, 52, 76, 97, 216, 219, 56, 83, 92, 168, 175, 206, 175, 11, 241, 43, 136, 29, 194, 0, 201, 131, 61, 167, 38, 233, 55, 108, 46, 50, 207, 247] := by decide +kernel
def exSalt : List UInt8 := [0, 1, 2, 3, 4, 5, 6, 7, 8, 9, 10, 11, 12]
def exInfo : List UInt8 := [240, 241, 242, 243, 244, 245, 246, 247, 248, 249]
def exSecret : List UInt8 := [7, 119, 9, 54, 44, 46, 50, 223, 13, 220, 63, 13, 196, 123, 186, 99, 144, 182, 199, 59, 181, 15, 156, 49, 34, 236, 132, 74, 215, 194, 179, 229]
theorem ext_ex : macK kW exSalt (List.replicate 22 11) = exSecret := by decide +kernel
theorem exp_ex : expK kW exSecret exInfo 42 = [60, 178, 95, 37, 250, 172, 213, 122, 144, 67, 79, 100, 208, 54, 47, 42, 45, 45, 10, 144, 207, 26, 90, 76, 93, 176, 45, 86, 236, 196, 197, 191, 52, 0, 114, 8, 213, 184, 135, 24, 88, 101] := by decide +kernel
end
end Go.Proofs.YtbnnjkjmadnjkaaDoor
