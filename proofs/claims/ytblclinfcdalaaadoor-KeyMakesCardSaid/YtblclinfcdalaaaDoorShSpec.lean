/-
  Layer 6's document in plain mathematics: a block's words, the rounds, a text's blocks, the sum. No program is named here.
-/
import Derived.Test.YtblclinfcdalaaaDoorShMath
namespace Go.Proofs.YtblclinfcdalaaaDoor
open Go.RowKit

/-- A block's words behind k of its bytes: 64 places, of which 16 are filled. -/
def ldW (bs : List UInt8) : Nat → List W32
  | 0 => List.replicate 64 0
  | k + 1 => (ldW bs k).set (k / 4) (inB ((ldW bs k).getD (k / 4) 0) (bs.getD k 0))

theorem ldW_zero (bs : List UInt8) : ldW bs 0 = List.replicate 64 0 := rfl
theorem ldW_len (bs : List UInt8) (k : Nat) : (ldW bs k).length = 64 := by
  induction k with
  | zero => simp [ldW]
  | succ k ih => simp [ldW, ih]

def sig0 (x : W32) : W32 := rr x 7 ^^^ rr x 18 ^^^ sr x 3
def sig1 (x : W32) : W32 := rr x 17 ^^^ rr x 19 ^^^ sr x 10

theorem wi_sig0 (x : W32) : bits .xor .u32 (bits .xor .u32 (wi (rr x 7)) (wi (rr x 18))) (wi x / 8) = wi (sig0 x) := by
  have h := wi_shr x 3
  rw [show (2 : Int) ^ 3 = 8 by decide] at h
  rw [h, wi_xor, wi_xor]
  rfl
theorem wi_sig1 (x : W32) : bits .xor .u32 (bits .xor .u32 (wi (rr x 17)) (wi (rr x 19))) (wi x / 1024) = wi (sig1 x) := by
  have h := wi_shr x 10
  rw [show (2 : Int) ^ 10 = 1024 by decide] at h
  rw [h, wi_xor, wi_xor]
  rfl

/-- The word behind those that there are. -/
def nextW (l : List W32) : W32 := l.getD (l.length - 16) 0 + sig0 (l.getD (l.length - 15) 0) + l.getD (l.length - 7) 0 + sig1 (l.getD (l.length - 2) 0)
def schW (m : List W32) : Nat → List W32
  | 0 => m
  | n + 1 => schW m n ++ [nextW (schW m n)]

theorem schW_len (m : List W32) (n : Nat) : (schW m n).length = m.length + n := by
  induction n with
  | zero => rfl
  | succ n ih => simp [schW, ih]; omega

theorem ldW_drop (bs : List UInt8) (k : Nat) (hk : k ≤ 64) : (ldW bs k).drop 16 = List.replicate 48 0 := by
  induction k with
  | zero => simp [ldW]
  | succ k ih =>
    rw [ldW, List.drop_set_of_lt (by omega)]
    exact ih (by omega)

/-- A block's first 16 words. -/
def mW (bs : List UInt8) : List W32 := (ldW bs 64).take 16
theorem mW_len (bs : List UInt8) : (mW bs).length = 16 := by simp [mW, ldW_len]
theorem ldW_full (bs : List UInt8) : ldW bs 64 = schW (mW bs) 0 ++ List.replicate 48 0 := by
  rw [← ldW_drop bs 64 (Nat.le_refl _)]
  exact (List.take_append_drop 16 _).symm

/-- The words of a block. -/
def wsW (bs : List UInt8) : List W32 := schW (mW bs) 48
theorem wsW_len (bs : List UInt8) : (wsW bs).length = 64 := by simp [wsW, schW_len, mW_len]

/-- The row while it is filled. -/
theorem sch_set (l : List W32) (n t : Nat) (v : W32) (ht : l.length = t) : (l ++ List.replicate (n + 1) 0).set t v = l ++ [v] ++ List.replicate n 0 := by
  subst ht
  rw [List.set_append_right _ _ (Nat.le_refl _), Nat.sub_self, List.replicate_succ, List.set_cons_zero, List.append_assoc]
  rfl
theorem sch_get (l : List W32) (n j : Nat) (hj : j < l.length) : (l ++ List.replicate n 0)[j]? = some (l.getD j 0) := by
  rw [List.getElem?_append_left hj]
  simp [List.getD, hj]

/-- The words a to h. -/
structure S8 where
  a : W32
  b : W32
  c : W32
  d : W32
  e : W32
  f : W32
  g : W32
  h : W32

def S8.l (s : S8) : List W32 := [s.a, s.b, s.c, s.d, s.e, s.f, s.g, s.h]
def t1W (s : S8) (k w : W32) : W32 := s.h + mix3 s.e 6 11 25 + ((s.e &&& s.f) ^^^ (~~~s.e &&& s.g)) + k + w
def t2W (s : S8) : W32 := mix3 s.a 2 13 22 + ((s.a &&& s.b) ^^^ (s.a &&& s.c) ^^^ (s.b &&& s.c))
theorem wi_addm (x y : W32) : wi (x + y) = (wi x + wi y) % 4294967296 := (wi_add' x y).symm
theorem wi_t1 (s : S8) (k w : W32) :
    (wi s.h + wi (mix3 s.e 6 11 25) + bits .xor .u32 (bits .and .u32 (wi s.e) (wi s.f)) (bits .and .u32 (bits .xor .u32 (if IntKind.u32.signed = true then -1 else IntKind.u32.max) (wi s.e)) (wi s.g)) + wi k + wi w) % 4294967296 = wi (t1W s k w) := by
  rw [show (if IntKind.u32.signed = true then (-1 : Int) else IntKind.u32.max) = 4294967295 from rfl, wi_and, wi_not, wi_and, wi_xor]
  unfold t1W
  rw [wi_addm, wi_addm, wi_addm, wi_addm]
  omega
theorem wi_t2 (s : S8) :
    (wi (mix3 s.a 2 13 22) + bits .xor .u32 (bits .xor .u32 (bits .and .u32 (wi s.a) (wi s.b)) (bits .and .u32 (wi s.a) (wi s.c))) (bits .and .u32 (wi s.b) (wi s.c))) % 4294967296 = wi (t2W s) := by
  rw [wi_and, wi_and, wi_and, wi_xor, wi_xor, wi_add']
  rfl
/-- A round. -/
def rnd (s : S8) (k w : W32) : S8 := ⟨t1W s k w + t2W s, s.a, s.b, s.c, s.d + t1W s k w, s.e, s.f, s.g⟩
def rndN (ks ws : List W32) (s : S8) : Nat → S8
  | 0 => s
  | n + 1 => rnd (rndN ks ws s n) (ks.getD n 0) (ws.getD n 0)
def addS (s r : S8) : S8 := ⟨s.a + r.a, s.b + r.b, s.c + r.c, s.d + r.d, s.e + r.e, s.f + r.f, s.g + r.g, s.h + r.h⟩
/-- A block that is taken in. -/
def takeS (ks : List W32) (s : S8) (bs : List UInt8) : S8 := addS s (rndN ks (wsW bs) s 64)

theorem S8.len (s : S8) : s.l.length = 8 := rfl
theorem addS_at (s r : S8) (i : Nat) (hi : i < 8) : (addS s r).l.getD i 0 = s.l.getD i 0 + r.l.getD i 0 := by
  rcases i with _ | _ | _ | _ | _ | _ | _ | _ | i <;> first | rfl | omega

/-- The state while a block's words are added to it. -/
def midS (s r : S8) (i : Nat) : List W32 := (addS s r).l.take i ++ s.l.drop i
theorem midS_zero (s r : S8) : midS s r 0 = s.l := rfl
theorem midS_full (s r : S8) : midS s r 8 = (addS s r).l := rfl
theorem midS_len (s r : S8) (i : Nat) (hi : i ≤ 8) : (midS s r i).length = 8 := by
  simp [midS, S8.len]; omega
theorem midS_at (s r : S8) (i : Nat) (hi : i < 8) : (midS s r i)[i]? = some (s.l.getD i 0) := by
  rcases i with _ | _ | _ | _ | _ | _ | _ | _ | i <;> first | rfl | omega
theorem midS_step (s r : S8) (i : Nat) (hi : i < 8) : (midS s r i).set i (s.l.getD i 0 + r.l.getD i 0) = midS s r (i + 1) := by
  rcases i with _ | _ | _ | _ | _ | _ | _ | _ | i <;> first | rfl | omega

end Go.Proofs.YtblclinfcdalaaaDoor
