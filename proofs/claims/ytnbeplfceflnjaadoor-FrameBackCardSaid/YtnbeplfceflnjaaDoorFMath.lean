/-
  Frames: what was appended is read as it was. Plain mathematics.
-/
import Derived.Test.YtnbeplfceflnjaaDoorFSpec
import Derived.Test.YtnbeplfceflnjaaDoorFPut
import Derived.Test.YtnbeplfceflnjaaDoorNumsMay
import Derived.Test.YtnbeplfceflnjaaDoorAppend
import Derived.Test.YtnbeplfceflnjaaDoorMath2
namespace Go.Proofs.YtnbeplfceflnjaaDoor
set_option linter.unusedVariables false

theorem num_enc {n : Nat} (h : n ≤ 4611686018427387903) (r : List UInt8) : num_ (enc n ++ r) = some (n, r) := by
  unfold num_
  rw [tk_enc h]
  simp only
  rw [List.drop_left' (enc_length n)]

theorem numIf_enc {b : Bool} {n : Nat} (h : n ≤ 4611686018427387903) (hz : b = false → n = 0) (r : List UInt8) : numIf_ b (encs (if b = true then [n] else []) ++ r) = some (n, r) := by
  unfold numIf_
  cases b
  · rw [hz rfl]; simp [encs]
  · simp only [if_true]
    rw [encs_one]
    exact num_enc h r

theorem down_enc {x : Nat × Nat} (h1 : x.1 < x.2) (h2 : x.2 ≤ 4611686018427387904) (r : List UInt8) : down_ (x.2 - 1) (enc (x.2 - 1 - x.1) ++ r) = some (x, r) := by
  unfold down_
  rw [num_enc (by omega)]
  simp only
  rw [if_pos (by omega)]
  obtain ⟨a, b⟩ := x
  simp only [Option.some.injEq, Prod.mk.injEq, and_true]
  simp only at h1
  omega

theorem encs_two (a b : Nat) (l : List Nat) : encs ([a, b] ++ l) = enc a ++ (enc b ++ encs l) := by simp [encs]

theorem more_enc {l : List (Nat × Nat)} (hok : OkR l) : ∀ (k : Nat) (acc : List (Nat × Nat)) (R : List UInt8), k < l.length →
    more_ k (l.getD k (0, 0)).1 acc (encs (lowNums l k) ++ R) = some (acc ++ (l.take k).reverse, R)
  | 0, acc, R, _ => by simp [more_, lowNums, encs]
  | k + 1, acc, R, hk => by
    obtain ⟨y, hy⟩ : ∃ y, l[k + 1]? = some y := ⟨_, List.getElem?_eq_getElem hk⟩
    obtain ⟨x, hx⟩ : ∃ x, l[k]? = some x := ⟨_, List.getElem?_eq_getElem (by omega)⟩
    obtain ⟨y1, y2, y3⟩ := hok (k + 1) y hy
    obtain ⟨x1, x2, _⟩ := hok k x hx
    have hyx := y3 x (by omega) (by simpa using hx)
    have gy : l.getD (k + 1) (0, 0) = y := by rw [List.getD_eq_getElem?_getD, hy]; rfl
    have gx : l.getD k (0, 0) = x := by rw [List.getD_eq_getElem?_getD, hx]; rfl
    have ih := more_enc hok k (acc ++ [x]) R (by omega)
    rw [gx] at ih
    unfold more_ lowNums
    rw [gy, gx, encs_two, List.append_assoc, num_enc (by omega)]
    simp only
    rw [if_pos (by omega), show y.1 - (y.1 - x.2 - 1) - 2 = x.2 - 1 by omega, List.append_assoc, down_enc x1 x2]
    simp only
    rw [ih, List.take_add_one, hx]
    simp

theorem acks_enc {f : PF} (hok : OkR f.acks) (hne : f.acks ≠ []) (hd : f.delay ≤ 4611686018427387903) (hl : f.acks.length ≤ 65536) (R : List UInt8) : acks_ (encs (ackNums f) ++ R) = some ((f.acks, f.delay), R) := by
  have hpos : 0 < f.acks.length := List.length_pos_iff.2 hne
  obtain ⟨x, hx⟩ : ∃ x, f.acks[f.acks.length - 1]? = some x := ⟨_, List.getElem?_eq_getElem (by omega)⟩
  obtain ⟨x1, x2, _⟩ := hok _ x hx
  have gx : f.acks.getD (f.acks.length - 1) (0, 0) = x := by rw [List.getD_eq_getElem?_getD, hx]; rfl
  have hm := more_enc hok (f.acks.length - 1) [x] R (by omega)
  rw [gx] at hm
  have e : encs (ackNums f) ++ R = enc (x.2 - 1) ++ (enc f.delay ++ (enc (f.acks.length - 1) ++ (enc (x.2 - 1 - x.1) ++ (encs (lowNums f.acks (f.acks.length - 1)) ++ R)))) := by
    unfold ackNums
    simp only [gx]
    simp [encs]
  unfold acks_
  rw [e, num_enc (by omega)]
  simp only
  rw [num_enc hd]
  simp only
  rw [num_enc (by omega)]
  simp only
  rw [down_enc x1 x2]
  simp only
  rw [hm]
  simp only [List.reverse_append, List.reverse_reverse, List.reverse_cons, List.reverse_nil, List.nil_append]
  have ht : f.acks.take (f.acks.length - 1) ++ [x] = f.acks := by
    have h := List.take_add_one (l := f.acks) (i := f.acks.length - 1)
    rw [hx, show f.acks.length - 1 + 1 = f.acks.length by omega, List.take_length] at h
    exact h.symm
  rw [ht]

/-- What is known of a frame that may be, by what its bytes name on the wire. -/
structure OnW (f : PF) (p : Nat) : Prop where
  b1 : bt p 1 = true
  id : bt p 2 = false → f.id = 0
  off : bt p 4 = false → f.off = 0
  code : bt p 8 = false → f.code = 0
  max : bt p 16 = false → f.max = 0
  n : bt p 32 = false → f.n = 0
  acks : bt p 128 = false → f.acks = [] ∧ f.delay = 0
  ecn : bt p 256 = false → f.e0 = 0 ∧ f.e1 = 0 ∧ f.e2 = 0
  data : bt p 1024 = false → f.data = []
  cid : bt p 2048 = false → f.cid = [] ∧ f.token = List.replicate 16 0

theorem tokB_zero {l : List UInt8} (h : tokB l = true) : l = List.replicate 16 0 := by
  unfold tokB at h
  have h := of_decide_eq_true h
  have hl : l.length = 16 := by
    have := congrArg List.length h
    simpa using this
  apply List.ext_getElem (by simpa using hl)
  intro i h1 h2
  have hi := congrArg (fun x : List Int => x[i]?) h
  simp only [List.getElem?_map, List.getElem?_eq_getElem h1, Option.map_some] at hi
  rw [List.getElem?_replicate, if_pos (by omega)] at hi
  simp only [Option.some.injEq] at hi
  rw [List.getElem_replicate]
  exact UInt8.toNat_inj.1 (by show l[i].toNat = 0; omega)

theorem onW_parts {f : PF} (h : MayF f) : OnW f (partsN f.kind) ∧ (bt (partsN f.kind) 64 = false → f.fin = false) := by
  obtain ⟨h1, h2, _⟩ := h
  unfold onlyB at h2
  simp only [Bool.and_eq_true, Bool.or_eq_true, beq_iff_eq, Bool.not_eq_true'] at h2
  obtain ⟨⟨⟨⟨⟨⟨⟨⟨⟨a1, a2⟩, a3⟩, a4⟩, a5⟩, a6⟩, a7⟩, a8⟩, a9⟩, a10⟩ := h2
  have ex : ∀ {b : Bool} {q : Prop}, b = true ∨ q → b = false → q := fun h h' => by rcases h with h | h; rw [h] at h'; cases h'; exact h
  refine ⟨⟨h1, fun e => by have := ex a1 e; omega, fun e => by have := ex a2 e; omega, fun e => by have := ex a3 e; omega, fun e => by have := ex a4 e; omega, fun e => by have := ex a5 e; omega,
    fun e => ?_, fun e => ?_, fun e => ?_, fun e => ?_⟩, fun e => ex a6 e⟩
  · have h := ex a7 e
    exact ⟨List.eq_nil_of_length_eq_zero (by omega), by omega⟩
  · have h := of_decide_eq_true (ex a8 e)
    simp only [List.cons.injEq, and_true] at h
    omega
  · exact List.eq_nil_of_length_eq_zero (by have := ex a9 e; omega)
  · have h := ex a10 e
    exact ⟨List.eq_nil_of_length_eq_zero (by omega), tokB_zero h.2⟩

theorem onW_wire {f : PF} (h : MayF f) : OnW f (wireP f) := by
  obtain ⟨hp, _⟩ := onW_parts h
  unfold wireP
  by_cases hk : f.kind = 8 ∧ f.off = 0
  · rw [if_pos hk]
    rw [hk.1] at hp
    have e1 : (bits .andNot .u16 (partsN 8 : Nat) 4).toNat = 1603 := by decide
    have e2 : partsN 8 = 1607 := by decide
    rw [e2] at hp
    rw [e1]
    have same : ∀ k ∈ [1, 2, 8, 16, 32, 128, 256, 1024, 2048], bt 1603 k = bt 1607 k := by decide
    exact ⟨by decide, fun e => hp.id (by rw [← same 2 (by decide)]; exact e), fun _ => hk.2, fun e => hp.code (by rw [← same 8 (by decide)]; exact e), fun e => hp.max (by rw [← same 16 (by decide)]; exact e), fun e => hp.n (by rw [← same 32 (by decide)]; exact e),
      fun e => hp.acks (by rw [← same 128 (by decide)]; exact e), fun e => hp.ecn (by rw [← same 256 (by decide)]; exact e), fun e => hp.data (by rw [← same 1024 (by decide)]; exact e), fun e => hp.cid (by rw [← same 2048 (by decide)]; exact e)⟩
  · rw [if_neg hk]; exact hp

theorem wc0 : ∀ k : Nat, k < 31 → k ≠ 0 → bt (partsN k) 32 = false := by decide +kernel
theorem wc1 : ∀ k : Nat, k < 31 → bt (partsN k) 512 = true → bt (partsN k) 1024 = true := by decide +kernel
theorem wc2 : ∀ k : Nat, k < 31 → bt (partsN k) 1024 = true → bt (partsN k) 2048 = false := by decide +kernel
theorem wc3 : ∀ k : Nat, k < 31 → bt (partsN k) 1024 = true → bt (partsN k) 512 = false → k = 26 ∨ k = 27 := by decide +kernel
theorem wc4 : ∀ k : Nat, k < 31 → bt (partsN k) 128 = true → k = 2 ∨ k = 3 := by decide +kernel
theorem wc5 : ∀ k : Nat, k < 31 → bt (partsN k) 2048 = true → k = 24 := by decide +kernel
theorem wc6 : ∀ k : Nat, k < 31 → bt (partsN k) 64 = true → k = 8 := by decide +kernel
theorem wc7 : ∀ k : Nat, k < 31 → bt (partsN k) 1 = true → 8 ≤ k → k < 16 → k = 8 := by decide +kernel
theorem wc8 : ∀ k : Nat, k < 31 → bt (partsN k) 256 = true → k = 3 := by decide +kernel
theorem wire_class (k : Nat) (hk : k < 31) (h1 : bt (partsN k) 1 = true) (h0 : k ≠ 0) : bt (partsN k) 32 = false ∧ (bt (partsN k) 512 = true → bt (partsN k) 1024 = true) ∧ (bt (partsN k) 1024 = true → bt (partsN k) 2048 = false) ∧
    (bt (partsN k) 1024 = true → bt (partsN k) 512 = false → k = 26 ∨ k = 27) ∧ (bt (partsN k) 128 = true → k = 2 ∨ k = 3) ∧ (bt (partsN k) 2048 = true → k = 24) ∧ (bt (partsN k) 64 = true → k = 8) ∧ (8 ≤ k → k < 16 → k = 8) ∧ (bt (partsN k) 256 = true → k = 3) :=
  ⟨wc0 k hk h0, wc1 k hk, wc2 k hk, wc3 k hk, wc4 k hk, wc5 k hk, wc6 k hk, wc7 k hk h1, wc8 k hk⟩

/-- The same of the parts on the wire. -/
structure Cls (f : PF) (p : Nat) : Prop where
  pad : bt p 32 = false
  told : bt p 512 = true → bt p 1024 = true
  dc : bt p 1024 = true → bt p 2048 = false
  eight : bt p 1024 = true → bt p 512 = false → f.kind = 26 ∨ f.kind = 27
  acks : bt p 128 = true → f.kind = 2 ∨ f.kind = 3
  cid : bt p 2048 = true → f.kind = 24

theorem kind_small {f : PF} (h : MayF f) : f.kind < 31 := by
  by_cases hk : f.kind < 31
  · exact hk
  · have h1 := h.1
    rw [partsN_big (by omega)] at h1
    exact absurd h1 (by decide)

theorem cls_wire {f : PF} (h : MayF f) (h0 : f.kind ≠ 0) : Cls f (wireP f) := by
  unfold wireP
  by_cases hk : f.kind = 8 ∧ f.off = 0
  · rw [if_pos hk, show (bits .andNot .u16 (partsN 8 : Nat) 4).toNat = 1603 by decide]
    exact ⟨by decide, fun _ => by decide, fun _ => by decide, fun _ e => absurd e (by decide), fun e => absurd e (by decide), fun e => absurd e (by decide)⟩
  · rw [if_neg hk]
    obtain ⟨a, b, c, d, e, g, _⟩ := wire_class f.kind (kind_small h) h.1 h0
    exact ⟨a, b, c, d, e, g⟩

theorem may_le {f : PF} (h : MayF f) : f.id ≤ 4611686018427387903 ∧ f.off ≤ 4611686018427387903 ∧ f.code ≤ 4611686018427387903 ∧ f.max ≤ 4611686018427387903 ∧ f.delay ≤ 4611686018427387903 ∧ f.e0 ≤ 4611686018427387903 ∧ f.e1 ≤ 4611686018427387903 ∧ f.e2 ≤ 4611686018427387903 ∧ f.data.length ≤ 4611686018427387903 := by
  obtain ⟨_, _, h3, _⟩ := h
  unfold numsB topN at h3
  simp only [Bool.and_eq_true, decide_eq_true_eq] at h3
  omega

theorem sF_may {f : PF} (h : MayF f) (r : List UInt8) : sF f r = some (f, r) := by unfold sF; exact if_pos h

theorem encs_app (a b : List Nat) : encs (a ++ b) = encs a ++ encs b := by simp [encs]
theorem encs_none : encs [] = [] := rfl

theorem data_enc {t : Bool} {k : Nat} {x : List UInt8} (hx : x.length ≤ 4611686018427387903) (ht : t = false → k ≠ 8 ∧ x.length = 8) (r : List UInt8) : data_ t k (encs (if t = true then [x.length] else []) ++ (x ++ r)) = some (x, r) := by
  unfold data_ len_
  cases t
  · obtain ⟨h1, h2⟩ := ht rfl
    simp only [Bool.false_eq_true, if_false, encs_none, List.nil_append, if_neg h1]
    rw [if_pos (by rw [List.length_append]; omega), ← h2, List.take_left' rfl, List.drop_left' rfl]
  · simp only [if_true, encs_one]
    rw [num_enc hx]
    simp only
    rw [if_pos (by rw [List.length_append]; omega), List.take_left' rfl, List.drop_left' rfl]

theorem cid_enc {x tok : List UInt8} (hx : x.length ≤ 20) (ht : tok.length = 16) (r : List UInt8) : cid_ (enc x.length ++ (x ++ (tok ++ r))) = some ((x, tok), r) := by
  have e : ∀ n : Nat, n ≤ 20 → enc n = [UInt8.ofNat n] := by decide
  rw [e _ hx, List.singleton_append]
  unfold cid_
  have hn : (UInt8.ofNat x.length).toNat = x.length := by rw [UInt8.toNat_ofNat', Nat.mod_eq_of_lt (by omega)]
  simp only [hn]
  rw [if_pos (by rw [List.length_append]; omega), List.drop_left' rfl, if_pos (by rw [List.length_append]; omega), List.take_left' rfl, List.take_left' ht, List.drop_left' ht]

end Go.Proofs.YtnbeplfceflnjaaDoor
