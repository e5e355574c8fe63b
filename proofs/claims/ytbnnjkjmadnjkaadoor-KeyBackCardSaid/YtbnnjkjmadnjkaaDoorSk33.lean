/-
  The hash of bytes, sixteen at a time: a sum's hash is the hashes' sum; where one bit is changed it is another. Plain mathematics; no program is named here.
  Polynomials of 128 bits as two words of 64, and how the model's operations on numbers are theirs; the product by rounds from the highest power. Plain mathematics; no program is named here.
  Words for blocks of 16 bytes: loads, builds, '==', what stood and stands; the document's example reckoned.
-/
import Derived.Test.YtbnnjkjmadnjkaaDoorSk32
import Derived.Laws.BitsAllLaws
import Derived.Test.YtbnnjkjmadnjkaaDoorSk0
import Derived.Deep.CutRange
import Derived.Lib.SlBytesConst
import Derived.Test.YtbnnjkjmadnjkaaDoorSk13
import Derived.Test.YtbnnjkjmadnjkaaDoorAsSeal
namespace Go.Proofs.YtbnnjkjmadnjkaaDoor
section
/-- The j-th sixteen bytes, noughts behind the last ones. -/
def ckG (b : List UInt8) (j : Nat) : List UInt8 := (List.range 16).map fun k => b.getD (16 * j + k) 0
theorem ck_len (b : List UInt8) (j : Nat) : (ckG b j).length = 16 := by simp [ckG]
/-- The hash, behind j blocks. -/
def hsN (h b : List UInt8) : Nat → List UInt8
  | 0 => List.replicate 16 0
  | j + 1 => tmL (xoG (hsN h b j) (ckG b j)) h
def hashL (h b : List UInt8) : List UInt8 := hsN h b ((b.length + 15) / 16)
theorem hsN_len {h : List UInt8} (hh : h.length = 16) (b : List UInt8) (j : Nat) : (hsN h b j).length = 16 := by
  cases j with
  | zero => simp [hsN]
  | succ j => exact tm_len hh
theorem bk_hsN {h : List UInt8} (hh : h.length = 16) (b : List UInt8) (j : Nat) : bkG (hsN h b j) = hashG (bkG h) ((List.range j).map fun i => bkG (ckG b i)) := by
  induction j with
  | zero => exact bk_zero
  | succ j ih =>
    rw [hsN, bk_tm (xo_len (hsN_len hh b j) (ck_len b j)) hh, bk_xor (hsN_len hh b j) (ck_len b j), ih, List.range_succ, List.map_append]
    unfold hashG
    rw [List.foldl_append]
    rfl
theorem hsN_xor {h : List UInt8} (hh : h.length = 16) (a b : List UInt8) (hl : a.length = b.length) (j : Nat) : hsN h (xoG a b) j = xoG (hsN h a j) (hsN h b j) := by
  have hck : ∀ i, ckG (xoG a b) i = xoG (ckG a i) (ckG b i) := fun i => by
    unfold ckG xoG
    apply List.ext_getElem (by simp)
    intro k h1 h2
    simp only [List.getElem_map, List.getElem_range, List.getElem_zipWith, List.getD_eq_getElem?_getD, List.getElem?_zipWith]
    by_cases hk : 16 * i + k < a.length
    · have hk2 : 16 * i + k < b.length := by omega
      rw [List.getElem?_eq_getElem hk, List.getElem?_eq_getElem hk2]
      rfl
    · rw [List.getElem?_eq_none (by omega), List.getElem?_eq_none (by omega)]
      rfl
  refine bk_inj (hsN_len hh _ j) (xo_len (hsN_len hh a j) (hsN_len hh b j)) ?_
  rw [bk_xor (hsN_len hh a j) (hsN_len hh b j), bk_hsN hh, bk_hsN hh, bk_hsN hh, ← hash_add _ _ _ (by simp), List.zipWith_map_left, List.zipWith_map_right]
  congr 1
  apply List.ext_getElem (by simp)
  intro k h1 h2
  simp only [List.getElem_map, List.getElem_range, List.getElem_zipWith]
  rw [hck, bk_xor (ck_len a k) (ck_len b k)]
theorem hash_xor {h : List UInt8} (hh : h.length = 16) (a b : List UInt8) (hl : a.length = b.length) : hashL h (xoG a b) = xoG (hashL h a) (hashL h b) := by
  have e : (xoG a b).length = a.length := by simp [xoG, hl]
  unfold hashL
  rw [e, hsN_xor hh a b hl, hl]
/-- A block with one bit alone. -/
def unG (k t : Nat) : List UInt8 := (List.replicate 16 (0 : UInt8)).set k (UInt8.ofNat (2 ^ t))
theorem un_bk : ∀ k : Nat, k < 16 → ∀ t : Nat, t < 8 → bkG (unG k t) = pwG (8 * k + (7 - t)) oneG := by decide +kernel
theorem un_len (k t : Nat) : (unG k t).length = 16 := by simp [unG]
theorem ck_set (b : List UInt8) (p t i : Nat) (hp : p < b.length) : ckG (b.set p (b.getD p 0 ^^^ UInt8.ofNat (2 ^ t))) i = if i = p / 16 then xoG (ckG b i) (unG (p % 16) t) else ckG b i := by
  split
  · next h =>
    subst h
    unfold ckG xoG unG
    apply List.ext_getElem (by simp)
    intro k h1 h2
    have hk : k < 16 := by simpa using h1
    simp only [List.getElem_map, List.getElem_range, List.getElem_zipWith, List.getD_eq_getElem?_getD, List.getElem_set, List.getElem_replicate]
    by_cases e : p % 16 = k
    · have e2 : 16 * (p / 16) + k = p := by omega
      rw [e2, if_pos e, List.getElem?_set_self hp]
      rfl
    · rw [if_neg e, List.getElem?_set_ne (by omega)]
      simp
  · next h =>
    unfold ckG
    apply List.map_congr_left
    intro k hk
    have hk : k < 16 := by simpa using hk
    simp only [List.getD_eq_getElem?_getD]
    rw [List.getElem?_set_ne (by omega)]
/-- One bit changed: another hash, under a block that is not 0. -/
theorem hash_set {h : List UInt8} (hh : h.length = 16) (h0 : bkG h ≠ 0#128) (b : List UInt8) (p t : Nat) (hp : p < b.length) (ht : t < 8) : hashL h (b.set p (b.getD p 0 ^^^ UInt8.ofNat (2 ^ t))) ≠ hashL h b := by
  intro e
  have e2 := congrArg bkG e
  unfold hashL at e2
  rw [List.length_set, bk_hsN hh, bk_hsN hh] at e2
  obtain ⟨q, hq⟩ : ∃ q, (b.length + 15) / 16 = p / 16 + (q + 1) := ⟨(b.length + 15) / 16 - p / 16 - 1, by omega⟩
  have hr : List.range ((b.length + 15) / 16) = List.range (p / 16) ++ (p / 16) :: (List.range q).map (fun i => p / 16 + 1 + i) := by
    rw [hq, List.range_add, List.range_succ_eq_map, List.map_cons, List.map_map]
    congr 1
    congr 1
    apply List.map_congr_left
    intro i _
    show p / 16 + (i + 1) = _
    omega
  rw [hr, List.map_append, List.map_append, List.map_cons, List.map_cons, ck_set b p t _ hp, if_pos rfl, bk_xor (ck_len _ _) (un_len _ _), un_bk (p % 16) (by omega) t ht] at e2
  have a1 : (List.range (p / 16)).map (fun i => bkG (ckG (b.set p (b.getD p 0 ^^^ UInt8.ofNat (2 ^ t))) i)) = (List.range (p / 16)).map (fun i => bkG (ckG b i)) := by
    apply List.map_congr_left
    intro i hi
    have : i < p / 16 := by simpa using hi
    rw [ck_set b p t i hp, if_neg (by omega)]
  have a2 : ((List.range q).map (fun i => p / 16 + 1 + i)).map (fun i => bkG (ckG (b.set p (b.getD p 0 ^^^ UInt8.ofNat (2 ^ t))) i)) = ((List.range q).map (fun i => p / 16 + 1 + i)).map (fun i => bkG (ckG b i)) := by
    apply List.map_congr_left
    intro i hi
    obtain ⟨j, _, rfl⟩ := List.mem_map.1 hi
    rw [ck_set b p t _ hp, if_neg (by omega)]
  rw [a1, a2] at e2
  exact hash_bit h0 _ _ _ _ e2
end

section
open Go.RowKit

abbrev W64 := BitVec 64
def wq (x : W64) : Int := (x.toNat : Int)
theorem wq_lt (x : W64) : wq x < 18446744073709551616 := by have := x.isLt; unfold wq; omega
theorem wq_nn (x : W64) : 0 ≤ wq x := Int.natCast_nonneg _
theorem wq_inj {x y : W64} (h : wq x = wq y) : x = y := BitVec.eq_of_toNat_eq (Int.ofNat_inj.1 h)
theorem wq_xor (x y : W64) : bits .xor .u64 (wq x) (wq y) = wq (x ^^^ y) := by
  unfold wq; rw [u64_xor_nat _ _ x.isLt y.isLt, BitVec.toNat_xor]
theorem wq_and (x y : W64) : bits .and .u64 (wq x) (wq y) = wq (x &&& y) := by
  unfold wq; rw [u64_and_nat _ _ x.isLt y.isLt, BitVec.toNat_and]
theorem wq_or (x y : W64) : bits .or .u64 (wq x) (wq y) = wq (x ||| y) := by
  unfold wq; rw [u64_or_nat _ _ x.isLt y.isLt, BitVec.toNat_or]
theorem wq_half (x : W64) : wq x / (2 : Int) = wq (x >>> 1) := by
  unfold wq; rw [BitVec.toNat_ushiftRight, Nat.shiftRight_eq_div_pow, Int.natCast_ediv]; rfl
theorem wq_shl (x : W64) (p : Nat) (m : Int) (hm : m = 2 ^ p) : IntKind.u64.wrap (wq x * m) = wq (x <<< p) := by
  subst hm
  unfold wq; rw [IntKind.wrap_u64, BitVec.toNat_shiftLeft, Nat.shiftLeft_eq, Int.natCast_emod, Int.natCast_mul, Int.natCast_pow]
  rfl
theorem wq_neg (x : W64) : IntKind.u64.wrap (-wq x) = wq (-x) := by
  have hx := x.isLt
  unfold wq; rw [IntKind.wrap_u64, BitVec.toNat_neg]
  omega
theorem wq_one : (1 : Int) = wq 1#64 := by decide
theorem wq_e1 : (16212958658533785600 : Int) = wq 0xE100000000000000#64 := by decide

/-- A word's lowest bit alone, taken from 0: all bits, or none. -/
theorem neg_bit (x : W64) : -(x &&& 1#64) = if x.getLsbD 0 then BitVec.allOnes 64 else 0#64 := by
  have h : x &&& 1#64 = if x.getLsbD 0 then 1#64 else 0#64 := by
    apply BitVec.eq_of_getLsbD_eq
    intro i hi
    rw [BitVec.getLsbD_and]
    by_cases hi0 : i = 0
    · subst hi0
      cases h0 : x.getLsbD 0
      · rw [Bool.false_and]; rfl
      · rw [Bool.true_and]; rfl
    · have e : (1#64).getLsbD i = false := by simp [BitVec.getLsbD_one, hi0]
      cases x.getLsbD 0
      · rw [e, Bool.and_false]; simp
      · rw [e, Bool.and_false]; simp [e]
  rw [h]
  cases x.getLsbD 0 <;> decide

/-- A polynomial's two words: the powers below x^64, those above. -/
def loG (v : W128) : W64 := BitVec.extractLsb' 64 64 v
def hiG (v : W128) : W64 := BitVec.extractLsb' 0 64 v
theorem lo_bit (v : W128) (i : Nat) (h : i < 64) : (loG v).getLsbD i = v.getLsbD (64 + i) := by
  unfold loG; rw [BitVec.getLsbD_extractLsb', decide_eq_true h, Bool.true_and]
theorem hi_bit (v : W128) (i : Nat) (h : i < 64) : (hiG v).getLsbD i = v.getLsbD i := by
  unfold hiG; rw [BitVec.getLsbD_extractLsb', decide_eq_true h, Bool.true_and, Nat.zero_add]
theorem lo_xor (u v : W128) : loG (u ^^^ v) = loG u ^^^ loG v := by
  apply BitVec.eq_of_getLsbD_eq
  intro i hi
  rw [BitVec.getLsbD_xor, lo_bit _ _ hi, lo_bit _ _ hi, lo_bit _ _ hi, BitVec.getLsbD_xor]
theorem hi_xor (u v : W128) : hiG (u ^^^ v) = hiG u ^^^ hiG v := by
  apply BitVec.eq_of_getLsbD_eq
  intro i hi
  rw [BitVec.getLsbD_xor, hi_bit _ _ hi, hi_bit _ _ hi, hi_bit _ _ hi, BitVec.getLsbD_xor]
theorem two_ext {u v : W128} (h1 : loG u = loG v) (h2 : hiG u = hiG v) : u = v := by
  apply BitVec.eq_of_getLsbD_eq
  intro i hi
  by_cases h : i < 64
  · rw [← hi_bit u i h, ← hi_bit v i h, h2]
  · have e : i = 64 + (i - 64) := by omega
    rw [e, ← lo_bit u _ (by omega), ← lo_bit v _ (by omega), h1]
theorem lo_zero : loG 0#128 = 0#64 := by decide
theorem hi_zero : hiG 0#128 = 0#64 := by decide
theorem lo_e1 : loG 0xE1000000000000000000000000000000#128 = 0xE100000000000000#64 := by decide
theorem hi_e1 : hiG 0xE1000000000000000000000000000000#128 = 0#64 := by decide

theorem lo_x (v : W128) : loG (xG v) = (loG v >>> 1) ^^^ (-(hiG v &&& 1#64) &&& 0xE100000000000000#64) := by
  unfold xG
  rw [lo_xor, neg_bit, hi_bit v 0 (by omega)]
  congr 1
  · apply BitVec.eq_of_getLsbD_eq
    intro i hi
    rw [lo_bit _ _ hi, BitVec.getLsbD_ushiftRight, BitVec.getLsbD_ushiftRight]
    by_cases h : 1 + i < 64
    · rw [lo_bit _ _ h]
      congr 1
      omega
    · rw [BitVec.getLsbD_of_ge v _ (by omega), BitVec.getLsbD_of_ge (loG v) _ (by omega)]
  · cases v.getLsbD 0 <;> decide
theorem hi_x (v : W128) : hiG (xG v) = loG v <<< 63 ||| hiG v >>> 1 := by
  unfold xG
  rw [hi_xor]
  have h0 : hiG (if v.getLsbD 0 then 0xE1000000000000000000000000000000#128 else 0#128) = 0#64 := by
    cases v.getLsbD 0 <;> decide
  rw [h0, BitVec.xor_zero]
  apply BitVec.eq_of_getLsbD_eq
  intro i hi
  rw [hi_bit _ _ hi, BitVec.getLsbD_ushiftRight, BitVec.getLsbD_or, BitVec.getLsbD_shiftLeft, BitVec.getLsbD_ushiftRight]
  by_cases h : i = 63
  · subst h
    have e : (loG v).getLsbD 0 = v.getLsbD 64 := lo_bit v 0 (by omega)
    have e2 : (hiG v).getLsbD 64 = false := BitVec.getLsbD_of_ge _ _ (by omega)
    have e3 : decide (63 < 63) = false := rfl
    rw [show 63 - 63 = 0 from rfl, e, show 1 + 63 = 64 from rfl, e2, e3]
    simp
  · have e : (hiG v).getLsbD (1 + i) = v.getLsbD (1 + i) := hi_bit v _ (by omega)
    have e2 : decide (i < 63) = true := decide_eq_true (by omega)
    simp [e, e2]
/-- A polynomial, or none, by a bit. -/
theorem lo_mask (q : W128) (x : W64) : loG q &&& -(x &&& 1#64) = loG (if x.getLsbD 0 then q else 0#128) := by
  rw [neg_bit]
  cases x.getLsbD 0
  · rw [if_neg (by simp), if_neg (by simp), lo_zero, BitVec.and_zero]
  · rw [if_pos rfl, if_pos rfl, BitVec.and_allOnes]
theorem hi_mask (q : W128) (x : W64) : hiG q &&& -(x &&& 1#64) = hiG (if x.getLsbD 0 then q else 0#128) := by
  rw [neg_bit]
  cases x.getLsbD 0
  · rw [if_neg (by simp), if_neg (by simp), hi_zero, BitVec.and_zero]
  · rw [if_pos rfl, if_pos rfl, BitVec.and_allOnes]

/-- A polynomial's value, its two cells. -/
def pL (v : W128) : List Value := [.int .u64 (wq (loG v)), .int .u64 (wq (hiG v))]
def pRow (v : W128) : Array Value := (pL v).toArray
theorem pRow_at0 (v : W128) : (pRow v)[0]? = some (.int .u64 (wq (loG v))) := rfl
theorem pRow_at1 (v : W128) : (pRow v)[1]? = some (.int .u64 (wq (hiG v))) := rfl
theorem wq_shl63 (x : W64) : IntKind.u64.wrap (wq x * (9223372036854775808 : Int)) = wq (x <<< 63) := wq_shl x 63 _ rfl
theorem wq_shl8 (x : W64) : IntKind.u64.wrap (wq x * (256 : Int)) = wq (x <<< 8) := wq_shl x 8 _ rfl

/-- The product, by rounds from the highest power. -/
def hoG (p q : W128) : Nat → W128
  | 0 => 0#128
  | n + 1 => xG (hoG p q n) ^^^ (if p.getLsbD n then q else 0#128)
theorem ho_lin (p : W128) (n : Nat) : LinG (fun q => hoG p q n) := by
  induction n with
  | zero => exact ⟨fun _ _ => by simp [hoG], fun _ => by simp [hoG, xG_zero]⟩
  | succ n ih =>
    refine ⟨fun u v => ?_, fun v => ?_⟩
    · show hoG p (u ^^^ v) (n + 1) = hoG p u (n + 1) ^^^ hoG p v (n + 1)
      have e : hoG p (u ^^^ v) n = hoG p u n ^^^ hoG p v n := ih.add u v
      rw [hoG, hoG, hoG, e, xG_add, xor_midG]
      congr 1
      cases p.getLsbD n <;> simp
    · show hoG p (xG v) (n + 1) = xG (hoG p v (n + 1))
      have e : hoG p (xG v) n = xG (hoG p v n) := ih.x v
      rw [hoG, hoG, e, xG_add]
      congr 1
      cases p.getLsbD n
      · simp [xG_zero]
      · rfl
theorem ho_add (u v q : W128) (n : Nat) : hoG (u ^^^ v) q n = hoG u q n ^^^ hoG v q n := by
  induction n with
  | zero => simp [hoG]
  | succ n ih =>
    rw [hoG, hoG, hoG, ih, xG_add, xor_midG, BitVec.getLsbD_xor]
    congr 1
    cases u.getLsbD n <;> cases v.getLsbD n <;> simp
theorem ho_bits : ∀ n : Nat, n < 128 → hoG (BitVec.twoPow 128 (127 - n)) oneG 128 = BitVec.twoPow 128 (127 - n) := by decide +kernel
theorem ho_one (p : W128) : hoG p oneG 128 = p :=
  add_ext (f := fun p => hoG p oneG 128) (g := fun p => p) (fun u v => ho_add u v oneG 128) (fun _ _ => rfl) (fun n hn => by
    show hoG (pwG n oneG) oneG 128 = pwG n oneG
    rw [pw_oneG n hn]
    exact ho_bits n hn) p
theorem ho_tm (p q : W128) : hoG p q 128 = tmG p q := by
  have e := (ho_lin p 128).is q
  simp only [ho_one] at e
  rw [e, tm_comm]

/-! Blocks of bytes out of polynomials. -/
theorem nvG_append : ∀ (l m : List UInt8), nvG (l ++ m) = nvG l * 2 ^ (8 * m.length) + nvG m
  | [], m => by simp [nvG]
  | x :: l, m => by
    rw [List.cons_append, nvG, nvG_append l m, nvG, List.length_append, Nat.mul_add, Nat.pow_add, Nat.add_mul]
    have : 2 ^ (8 * l.length) * 2 ^ (8 * m.length) * x.toNat = 2 ^ (8 * l.length) * x.toNat * 2 ^ (8 * m.length) := by
      rw [Nat.mul_assoc, Nat.mul_comm (2 ^ (8 * m.length)) x.toNat, Nat.mul_assoc]
    omega
/-- The k-th byte of a polynomial. -/
def byG (v : W128) (k : Nat) : UInt8 := UInt8.ofNat (v.toNat / 2 ^ (8 * (15 - k)) % 256)
def blG (v : W128) : List UInt8 := (List.range 16).map (byG v)
theorem bl_len (v : W128) : (blG v).length = 16 := by simp [blG]
theorem by_bit (v : W128) (k t : Nat) (ht : t < 8) : (byG v k).toNat.testBit t = v.getLsbD (8 * (15 - k) + t) := by
  unfold byG
  have e : (UInt8.ofNat (v.toNat / 2 ^ (8 * (15 - k)) % 256)).toNat = v.toNat / 2 ^ (8 * (15 - k)) % 2 ^ 8 := by simp
  rw [e, Nat.testBit_mod_two_pow, decide_eq_true ht, Bool.true_and, Nat.testBit_div_two_pow, BitVec.getLsbD, Nat.add_comm]
theorem bk_bl (v : W128) : bkG (blG v) = v := by
  refine bk_ext (bl_len v) fun i hi => ?_
  have hk : i / 8 < 16 := by omega
  unfold btG blG
  rw [List.getD_eq_getElem?_getD, List.getElem?_map, List.getElem?_range hk, Option.map_some, Option.getD_some, by_bit v (i / 8) _ (by omega)]
  congr 1
  omega
theorem bl_bk {l : List UInt8} (h : l.length = 16) : blG (bkG l) = l := bk_inj (bl_len _) h (bk_bl _)
theorem bl_inj {u v : W128} (h : blG u = blG v) : u = v := by rw [← bk_bl u, h, bk_bl]
theorem bl_tm {a b : List UInt8} (ha : a.length = 16) (hb : b.length = 16) : blG (tmG (bkG a) (bkG b)) = tmL a b := by
  rw [← bk_tm ha hb, bl_bk (tm_len hb)]
theorem bl_xor (u v : W128) : blG (u ^^^ v) = xoG (blG u) (blG v) :=
  bk_inj (bl_len _) (xo_len (bl_len u) (bl_len v)) (by rw [bk_bl, bk_xor (bl_len u) (bl_len v), bk_bl, bk_bl])

/-- The first k bytes of each half of a block, as words. -/
def w8N (l : List UInt8) (o : Nat) : Nat → W64
  | 0 => 0#64
  | k + 1 => w8N l o k <<< 8 ||| BitVec.ofNat 64 (l.getD (o + k) 0).toNat
theorem wq_in (x : W64) (b : UInt8) : bits .or .u64 (IntKind.u64.wrap (wq x * 256)) (b.toNat : Int) = wq (x <<< 8 ||| BitVec.ofNat 64 b.toNat) := by
  have hb := b.toNat_lt
  rw [wq_shl x 8 256 rfl, ← wq_or]
  congr 1
  unfold wq
  rw [BitVec.toNat_ofNat, Nat.mod_eq_of_lt (by omega)]
theorem w8_bit (l : List UInt8) (o k : Nat) (i : Nat) (hi : i < 64) : (w8N l o k).getLsbD i = (decide (i < 8 * k) && (l.getD (o + k - 1 - i / 8) 0).toNat.testBit (i % 8)) := by
  induction k generalizing i with
  | zero => simp [w8N]
  | succ k ih =>
    rw [w8N, BitVec.getLsbD_or, BitVec.getLsbD_shiftLeft, BitVec.getLsbD_ofNat]
    by_cases h : i < 8
    · rw [decide_eq_true hi, decide_eq_true h, decide_eq_true (show i < 8 * (k + 1) by omega)]
      simp only [Bool.not_true, Bool.and_false, Bool.false_and, Bool.false_or, Bool.true_and]
      rw [show i / 8 = 0 by omega, show i % 8 = i by omega]
      rfl
    · have hb : (l.getD (o + k) 0).toNat.testBit i = false := Nat.testBit_lt_two_pow (Nat.lt_of_lt_of_le (UInt8.toNat_lt _) (Nat.pow_le_pow_right (by omega) (by omega)))
      rw [ih (i - 8) (by omega), decide_eq_true hi, decide_eq_false h, hb]
      simp only [Bool.not_false, Bool.and_true, Bool.true_and, Bool.or_false, Bool.and_false]
      congr 1
      · rw [decide_eq_decide]; omega
      · have e1 : o + k - 1 - (i - 8) / 8 = o + (k + 1) - 1 - i / 8 := by omega
        have e2 : (i - 8) % 8 = i % 8 := by omega
        rw [e1, e2]
theorem w8_lo {l : List UInt8} (h : l.length = 16) : w8N l 0 8 = loG (bkG l) := by
  apply BitVec.eq_of_getLsbD_eq
  intro i hi
  have e : 64 + i = 127 - (63 - i) := by omega
  rw [w8_bit l 0 8 i hi, lo_bit _ _ hi, e, bk_bit h (63 - i) (by omega), decide_eq_true hi, Bool.true_and]
  unfold btG
  have e1 : 0 + 8 - 1 - i / 8 = (63 - i) / 8 := by omega
  have e2 : 7 - (63 - i) % 8 = i % 8 := by omega
  rw [e1, e2]
theorem w8_hi {l : List UInt8} (h : l.length = 16) : w8N l 8 8 = hiG (bkG l) := by
  apply BitVec.eq_of_getLsbD_eq
  intro i hi
  have e : i = 127 - (127 - i) := by omega
  rw [w8_bit l 8 8 i hi, hi_bit _ _ hi]
  conv => rhs; rw [e]
  rw [bk_bit h (127 - i) (by omega), decide_eq_true (show i < 8 * 8 by omega), Bool.true_and]
  unfold btG
  have e1 : 8 + 8 - 1 - i / 8 = (127 - i) / 8 := by omega
  have e2 : 7 - (127 - i) % 8 = i % 8 := by omega
  rw [e1, e2]
end

section
open Go.RowKit
set_option linter.unusedVariables false

def kvN : Nat → List UInt8
  | 0 => List.replicate 16 0
  | k + 1 => (kvN k).set k (UInt8.ofNat k)
def bvN : Nat → List UInt8
  | 0 => List.replicate 16 0
  | k + 1 => (bvN k).set k (UInt8.ofNat (17 * k))
theorem kvN_len (k : Nat) : (kvN k).length = 16 := by
  induction k with
  | zero => rfl
  | succ k ih => simp [kvN, ih]
theorem bvN_len (k : Nat) : (bvN k).length = 16 := by
  induction k with
  | zero => rfl
  | succ k ih => simp [bvN, ih]
def exOut : List UInt8 := [105, 196, 224, 216, 106, 123, 4, 48, 216, 205, 183, 128, 112, 180, 197, 90]
theorem ex_out : seL (ksL (kvN 16)) (bvN 16) = exOut := by decide +kernel
theorem ex_sub : sB 0 = 99 ∧ sB 83 = 237 ∧ sB 255 = 22 := by decide +kernel

/-- All that stood at a world stands. -/
def SinceA (w0 wr : World) : Prop := Below w0.heap.size w0 wr
theorem SinceA.self (w : World) : SinceA w w := Below.refl _ _
theorem SinceA.trans {a b c : World} (h : SinceA a b) (k : SinceA b c) : SinceA a c := Below.trans h (k.mono h.size)
theorem SinceA.wh {a b : World} (h : SinceA a b) {g : Nat} {t : TypeId} {cs : Array Value} (hw : Wh a g t cs) : Wh b g t cs := hw.below h hw.lt
theorem kv_byte {k : Nat} (h : k < 16) : (k : Int) = ((UInt8.ofNat k).toNat : Int) := by
  have e : (UInt8.ofNat k).toNat = k := by simp; omega
  rw [e]
theorem bv_byte {k : Nat} (h : k < 16) : 17 * (k : Int) = ((UInt8.ofNat (17 * k)).toNat : Int) := by
  have e : (UInt8.ofNat (17 * k)).toNat = 17 * k := by simp; omega
  rw [e]
  omega
theorem zlen : (List.replicate 16 (0 : UInt8)).length = 16 := rfl
theorem sl_of_whA {w : World} {g : Nat} {t : TypeId} {l : List UInt8} (h : Wh w g t (aRow l)) : Sl w w.heap.size (some ⟨g, 0, none⟩) l := by
  intro _
  refine ⟨g, 0, rfl, h.lt, fun i v hv => ?_⟩
  rw [Nat.zero_add, h.cell, aRow, List.getElem?_toArray]
  exact hv

theorem wpList_load_blkG {ops : Array Oper} {rest : List Oper} {op : Oper} {a : Act} {w : World} {Q : Exit → Act → World → Prop} (x : Operand) (ho : op.op = .load 23 x) (hw : Region.wanted op (yielded ops a.tmps) = true)
    (b o : Nat) (hx : a.eval x = .pointer (some ⟨b, o, none⟩)) (l : List UInt8) (hl : l.length = 16) (hc : w.rangeAt b o (l.map cell8))
    (h : wpList Tryd.prog ops Q rest (a.put op.dst (.agg (aRow l))) w) : wpList Tryd.prog ops Q (op :: rest) a w :=
  wpList_step fun K hK => by
    rw [if_pos hw]
    exact wp_load_mid 23 x ho b o hx (l.map cell8) _ hc Tryd.underlying23 rfl (by rw [List.length_map, hl]; exact info_a16) (hK _ _ h)
theorem wpList_built0G {P : Program} {ops : Array Oper} {rest : List Oper} {o : Oper} {a : Act} {w : World} {Q : Exit → Act → World → Prop} (t : TypeId) (ho : o.op = .build t #[]) (hw : Region.wanted o (yielded ops a.tmps) = true)
    (cells : Array Value) (hb : P.built t [] = some cells)
    (h : wpList P ops Q rest (a.put o.dst (.agg cells)) w) : wpList P ops Q (o :: rest) a w := by
  have e : ((#[] : Array (Nat × Operand)).map fun (i, x) => (i, a.eval x)).toList = [] := by simp
  exact wpList_step fun K hK => by
    rw [if_pos hw]
    exact wp_build t #[] ho (by rw [e, hb]; rfl) (by rw [e, hb]; exact hK _ _ h)
theorem aRow_ints (l : List UInt8) : aRow l = (ints .u8 (l.map fun x => (x.toNat : Int))).toArray := by
  unfold aRow ints
  rw [List.map_map]
  rfl
theorem bytes_wfA (l : List UInt8) : ∀ z ∈ l.map (fun x => (x.toNat : Int)), (Lit.int .u8 z).wf = true := by
  intro z hz
  obtain ⟨x, _, rfl⟩ := List.mem_map.1 hz
  have := x.toNat_lt
  simp only [Lit.wf, Bool.and_eq_true, decide_eq_true_eq]
  refine ⟨?_, ?_⟩ <;> simp [IntKind.min, IntKind.max, IntKind.signed, IntKind.bits] <;> omega
set_option maxRecDepth 100000 in
/-- '==' of two blocks. -/
theorem eq_blks (a b : List UInt8) (ha : a.length = 16) (hb : b.length = 16) (w : World) : (Op.equalIn 10000 23 (.agg (aRow a)) (.agg (aRow b))).run Tryd.prog w = .ok (decide (a = b)) w := by
  rw [aRow_ints, aRow_ints]
  have h := run_equalIn_ints (P := Tryd.prog) (q := .u8) (n := 16) Tryd.underlying23 Tryd.underlying5 (by kernel_rfl) (by kernel_rfl) (by kernel_rfl) (a.map fun x => (x.toNat : Int)) (b.map fun x => (x.toNat : Int)) (by simpa using ha) (by simpa using hb) (bytes_wfA a) (bytes_wfA b) w
  rw [h]
  congr 1
  rw [decide_eq_decide]
  exact ⟨fun e => List.map_inj_right (fun x y h => b_inj h) |>.1 e, fun e => by rw [e]⟩
theorem sub_ex0 (w : World) : Calls Tryd.prog 82 #[.int .u8 0] w fun e w' => e = .returned (.int .u8 99) ∧ w = w' := by
  have h := sub_any 0 w
  rw [ex_sub.1] at h
  exact h
theorem sub_ex1 (w : World) : Calls Tryd.prog 82 #[.int .u8 83] w fun e w' => e = .returned (.int .u8 237) ∧ w = w' := by
  have h := sub_any 83 w
  rw [ex_sub.2.1] at h
  exact h
theorem sub_ex2 (w : World) : Calls Tryd.prog 82 #[.int .u8 255] w fun e w' => e = .returned (.int .u8 22) ∧ w = w' := by
  have h := sub_any 255 w
  rw [ex_sub.2.2] at h
  exact h
end
end Go.Proofs.YtbnnjkjmadnjkaaDoor
