/-
  Frames: what was appended is read as it was. Plain mathematics.
  Frames: what was appended is read as it was; cut short it is none. Plain mathematics.
  Frames: what is read does not hang on what stands behind; cut short there is none. Plain mathematics.
-/
import Derived.Test.YtkkojhkglcigmaaDoorFSpec
import Derived.Test.YtkkojhkglcigmaaDoorFPut
import Derived.Test.YtkkojhkglcigmaaDoorNumsMay
import Derived.Test.YtkkojhkglcigmaaDoorAppend
import Derived.Test.YtkkojhkglcigmaaDoorMath2
namespace Go.Proofs.YtkkojhkglcigmaaDoor

section
set_option linter.unusedVariables false

theorem num_enc {n : Nat} (h : n ≤ 4611686018427387903) (r : List UInt8) : num_ (enc n ++ r) = some (n, r) := by
  unfold num_
  rw [tk_enc h]
  simp only
  rw [List.drop_left' (enc_length n)]

theorem numIf_enc {b : Bool} {n : Nat} (h : n ≤ 4611686018427387903) (hz : b = false → n = 0) (r : List UInt8) : numIf_ b (encs (if b = true then [n] else []) ++ r) = some (n, r) := by
  unfold numIf_
  cases b
  · rw [hz rfl]; simp [encs]
  · simp only [if_true]
    rw [encs_one]
    exact num_enc h r

theorem down_enc {x : Nat × Nat} (h1 : x.1 < x.2) (h2 : x.2 ≤ 4611686018427387904) (r : List UInt8) : down_ (x.2 - 1) (enc (x.2 - 1 - x.1) ++ r) = some (x, r) := by
  unfold down_
  rw [num_enc (by omega)]
  simp only
  rw [if_pos (by omega)]
  obtain ⟨a, b⟩ := x
  simp only [Option.some.injEq, Prod.mk.injEq, and_true]
  simp only at h1
  omega

theorem encs_two (a b : Nat) (l : List Nat) : encs ([a, b] ++ l) = enc a ++ (enc b ++ encs l) := by simp [encs]

theorem more_enc {l : List (Nat × Nat)} (hok : OkR l) : ∀ (k : Nat) (acc : List (Nat × Nat)) (R : List UInt8), k < l.length →
    more_ k (l.getD k (0, 0)).1 acc (encs (lowNums l k) ++ R) = some (acc ++ (l.take k).reverse, R)
  | 0, acc, R, _ => by simp [more_, lowNums, encs]
  | k + 1, acc, R, hk => by
    obtain ⟨y, hy⟩ : ∃ y, l[k + 1]? = some y := ⟨_, List.getElem?_eq_getElem hk⟩
    obtain ⟨x, hx⟩ : ∃ x, l[k]? = some x := ⟨_, List.getElem?_eq_getElem (by omega)⟩
    obtain ⟨y1, y2, y3⟩ := hok (k + 1) y hy
    obtain ⟨x1, x2, _⟩ := hok k x hx
    have hyx := y3 x (by omega) (by simpa using hx)
    have gy : l.getD (k + 1) (0, 0) = y := by rw [List.getD_eq_getElem?_getD, hy]; rfl
    have gx : l.getD k (0, 0) = x := by rw [List.getD_eq_getElem?_getD, hx]; rfl
    have ih := more_enc hok k (acc ++ [x]) R (by omega)
    rw [gx] at ih
    unfold more_ lowNums
    rw [gy, gx, encs_two, List.append_assoc, num_enc (by omega)]
    simp only
    rw [if_pos (by omega), show y.1 - (y.1 - x.2 - 1) - 2 = x.2 - 1 by omega, List.append_assoc, down_enc x1 x2]
    simp only
    rw [ih, List.take_add_one, hx]
    simp

theorem acks_enc {f : PF} (hok : OkR f.acks) (hne : f.acks ≠ []) (hd : f.delay ≤ 4611686018427387903) (hl : f.acks.length ≤ 65536) (R : List UInt8) : acks_ (encs (ackNums f) ++ R) = some ((f.acks, f.delay), R) := by
  have hpos : 0 < f.acks.length := List.length_pos_iff.2 hne
  obtain ⟨x, hx⟩ : ∃ x, f.acks[f.acks.length - 1]? = some x := ⟨_, List.getElem?_eq_getElem (by omega)⟩
  obtain ⟨x1, x2, _⟩ := hok _ x hx
  have gx : f.acks.getD (f.acks.length - 1) (0, 0) = x := by rw [List.getD_eq_getElem?_getD, hx]; rfl
  have hm := more_enc hok (f.acks.length - 1) [x] R (by omega)
  rw [gx] at hm
  have e : encs (ackNums f) ++ R = enc (x.2 - 1) ++ (enc f.delay ++ (enc (f.acks.length - 1) ++ (enc (x.2 - 1 - x.1) ++ (encs (lowNums f.acks (f.acks.length - 1)) ++ R)))) := by
    unfold ackNums
    simp only [gx]
    simp [encs]
  unfold acks_
  rw [e, num_enc (by omega)]
  simp only
  rw [num_enc hd]
  simp only
  rw [num_enc (by omega)]
  simp only
  rw [down_enc x1 x2]
  simp only
  rw [hm]
  simp only [List.reverse_append, List.reverse_reverse, List.reverse_cons, List.reverse_nil, List.nil_append]
  have ht : f.acks.take (f.acks.length - 1) ++ [x] = f.acks := by
    have h := List.take_add_one (l := f.acks) (i := f.acks.length - 1)
    rw [hx, show f.acks.length - 1 + 1 = f.acks.length by omega, List.take_length] at h
    exact h.symm
  rw [ht]

/-- What is known of a frame that may be, by what its bytes name on the wire. -/
structure OnW (f : PF) (p : Nat) : Prop where
  b1 : bt p 1 = true
  id : bt p 2 = false → f.id = 0
  off : bt p 4 = false → f.off = 0
  code : bt p 8 = false → f.code = 0
  max : bt p 16 = false → f.max = 0
  n : bt p 32 = false → f.n = 0
  acks : bt p 128 = false → f.acks = [] ∧ f.delay = 0
  ecn : bt p 256 = false → f.e0 = 0 ∧ f.e1 = 0 ∧ f.e2 = 0
  data : bt p 1024 = false → f.data = []
  cid : bt p 2048 = false → f.cid = [] ∧ f.token = List.replicate 16 0

theorem tokB_zero {l : List UInt8} (h : tokB l = true) : l = List.replicate 16 0 := by
  unfold tokB at h
  have h := of_decide_eq_true h
  have hl : l.length = 16 := by
    have := congrArg List.length h
    simpa using this
  apply List.ext_getElem (by simpa using hl)
  intro i h1 h2
  have hi := congrArg (fun x : List Int => x[i]?) h
  simp only [List.getElem?_map, List.getElem?_eq_getElem h1, Option.map_some] at hi
  rw [List.getElem?_replicate, if_pos (by omega)] at hi
  simp only [Option.some.injEq] at hi
  rw [List.getElem_replicate]
  exact UInt8.toNat_inj.1 (by show l[i].toNat = 0; omega)

theorem onW_parts {f : PF} (h : MayF f) : OnW f (partsN f.kind) ∧ (bt (partsN f.kind) 64 = false → f.fin = false) := by
  obtain ⟨h1, h2, _⟩ := h
  unfold onlyB at h2
  simp only [Bool.and_eq_true, Bool.or_eq_true, beq_iff_eq, Bool.not_eq_true'] at h2
  obtain ⟨⟨⟨⟨⟨⟨⟨⟨⟨a1, a2⟩, a3⟩, a4⟩, a5⟩, a6⟩, a7⟩, a8⟩, a9⟩, a10⟩ := h2
  have ex : ∀ {b : Bool} {q : Prop}, b = true ∨ q → b = false → q := fun h h' => by rcases h with h | h; rw [h] at h'; cases h'; exact h
  refine ⟨⟨h1, fun e => by have := ex a1 e; omega, fun e => by have := ex a2 e; omega, fun e => by have := ex a3 e; omega, fun e => by have := ex a4 e; omega, fun e => by have := ex a5 e; omega,
    fun e => ?_, fun e => ?_, fun e => ?_, fun e => ?_⟩, fun e => ex a6 e⟩
  · have h := ex a7 e
    exact ⟨List.eq_nil_of_length_eq_zero (by omega), by omega⟩
  · have h := of_decide_eq_true (ex a8 e)
    simp only [List.cons.injEq, and_true] at h
    omega
  · exact List.eq_nil_of_length_eq_zero (by have := ex a9 e; omega)
  · have h := ex a10 e
    exact ⟨List.eq_nil_of_length_eq_zero (by omega), tokB_zero h.2⟩

theorem onW_wire {f : PF} (h : MayF f) : OnW f (wireP f) := by
  obtain ⟨hp, _⟩ := onW_parts h
  unfold wireP
  by_cases hk : f.kind = 8 ∧ f.off = 0
  · rw [if_pos hk]
    rw [hk.1] at hp
    have e1 : (bits .andNot .u16 (partsN 8 : Nat) 4).toNat = 1603 := by decide
    have e2 : partsN 8 = 1607 := by decide
    rw [e2] at hp
    rw [e1]
    have same : ∀ k ∈ [1, 2, 8, 16, 32, 128, 256, 1024, 2048], bt 1603 k = bt 1607 k := by decide
    exact ⟨by decide, fun e => hp.id (by rw [← same 2 (by decide)]; exact e), fun _ => hk.2, fun e => hp.code (by rw [← same 8 (by decide)]; exact e), fun e => hp.max (by rw [← same 16 (by decide)]; exact e), fun e => hp.n (by rw [← same 32 (by decide)]; exact e),
      fun e => hp.acks (by rw [← same 128 (by decide)]; exact e), fun e => hp.ecn (by rw [← same 256 (by decide)]; exact e), fun e => hp.data (by rw [← same 1024 (by decide)]; exact e), fun e => hp.cid (by rw [← same 2048 (by decide)]; exact e)⟩
  · rw [if_neg hk]; exact hp

theorem wc0 : ∀ k : Nat, k < 31 → k ≠ 0 → bt (partsN k) 32 = false := by decide +kernel
theorem wc1 : ∀ k : Nat, k < 31 → bt (partsN k) 512 = true → bt (partsN k) 1024 = true := by decide +kernel
theorem wc2 : ∀ k : Nat, k < 31 → bt (partsN k) 1024 = true → bt (partsN k) 2048 = false := by decide +kernel
theorem wc3 : ∀ k : Nat, k < 31 → bt (partsN k) 1024 = true → bt (partsN k) 512 = false → k = 26 ∨ k = 27 := by decide +kernel
theorem wc4 : ∀ k : Nat, k < 31 → bt (partsN k) 128 = true → k = 2 ∨ k = 3 := by decide +kernel
theorem wc5 : ∀ k : Nat, k < 31 → bt (partsN k) 2048 = true → k = 24 := by decide +kernel
theorem wc6 : ∀ k : Nat, k < 31 → bt (partsN k) 64 = true → k = 8 := by decide +kernel
theorem wc7 : ∀ k : Nat, k < 31 → bt (partsN k) 1 = true → 8 ≤ k → k < 16 → k = 8 := by decide +kernel
theorem wc8 : ∀ k : Nat, k < 31 → bt (partsN k) 256 = true → k = 3 := by decide +kernel
theorem wire_class (k : Nat) (hk : k < 31) (h1 : bt (partsN k) 1 = true) (h0 : k ≠ 0) : bt (partsN k) 32 = false ∧ (bt (partsN k) 512 = true → bt (partsN k) 1024 = true) ∧ (bt (partsN k) 1024 = true → bt (partsN k) 2048 = false) ∧
    (bt (partsN k) 1024 = true → bt (partsN k) 512 = false → k = 26 ∨ k = 27) ∧ (bt (partsN k) 128 = true → k = 2 ∨ k = 3) ∧ (bt (partsN k) 2048 = true → k = 24) ∧ (bt (partsN k) 64 = true → k = 8) ∧ (8 ≤ k → k < 16 → k = 8) ∧ (bt (partsN k) 256 = true → k = 3) :=
  ⟨wc0 k hk h0, wc1 k hk, wc2 k hk, wc3 k hk, wc4 k hk, wc5 k hk, wc6 k hk, wc7 k hk h1, wc8 k hk⟩

/-- The same of the parts on the wire. -/
structure Cls (f : PF) (p : Nat) : Prop where
  pad : bt p 32 = false
  told : bt p 512 = true → bt p 1024 = true
  dc : bt p 1024 = true → bt p 2048 = false
  eight : bt p 1024 = true → bt p 512 = false → f.kind = 26 ∨ f.kind = 27
  acks : bt p 128 = true → f.kind = 2 ∨ f.kind = 3
  cid : bt p 2048 = true → f.kind = 24

theorem kind_small {f : PF} (h : MayF f) : f.kind < 31 := by
  by_cases hk : f.kind < 31
  · exact hk
  · have h1 := h.1
    rw [partsN_big (by omega)] at h1
    exact absurd h1 (by decide)

theorem cls_wire {f : PF} (h : MayF f) (h0 : f.kind ≠ 0) : Cls f (wireP f) := by
  unfold wireP
  by_cases hk : f.kind = 8 ∧ f.off = 0
  · rw [if_pos hk, show (bits .andNot .u16 (partsN 8 : Nat) 4).toNat = 1603 by decide]
    exact ⟨by decide, fun _ => by decide, fun _ => by decide, fun _ e => absurd e (by decide), fun e => absurd e (by decide), fun e => absurd e (by decide)⟩
  · rw [if_neg hk]
    obtain ⟨a, b, c, d, e, g, _⟩ := wire_class f.kind (kind_small h) h.1 h0
    exact ⟨a, b, c, d, e, g⟩

theorem may_le {f : PF} (h : MayF f) : f.id ≤ 4611686018427387903 ∧ f.off ≤ 4611686018427387903 ∧ f.code ≤ 4611686018427387903 ∧ f.max ≤ 4611686018427387903 ∧ f.delay ≤ 4611686018427387903 ∧ f.e0 ≤ 4611686018427387903 ∧ f.e1 ≤ 4611686018427387903 ∧ f.e2 ≤ 4611686018427387903 ∧ f.data.length ≤ 4611686018427387903 := by
  obtain ⟨_, _, h3, _⟩ := h
  unfold numsB topN at h3
  simp only [Bool.and_eq_true, decide_eq_true_eq] at h3
  omega

theorem sF_may {f : PF} (h : MayF f) (r : List UInt8) : sF f r = some (f, r) := by unfold sF; exact if_pos h

theorem encs_app (a b : List Nat) : encs (a ++ b) = encs a ++ encs b := by simp [encs]
theorem encs_none : encs [] = [] := rfl

theorem data_enc {t : Bool} {k : Nat} {x : List UInt8} (hx : x.length ≤ 4611686018427387903) (ht : t = false → k ≠ 8 ∧ x.length = 8) (r : List UInt8) : data_ t k (encs (if t = true then [x.length] else []) ++ (x ++ r)) = some (x, r) := by
  unfold data_ len_
  cases t
  · obtain ⟨h1, h2⟩ := ht rfl
    simp only [Bool.false_eq_true, if_false, encs_none, List.nil_append, if_neg h1]
    rw [if_pos (by rw [List.length_append]; omega), ← h2, List.take_left' rfl, List.drop_left' rfl]
  · simp only [if_true, encs_one]
    rw [num_enc hx]
    simp only
    rw [if_pos (by rw [List.length_append]; omega), List.take_left' rfl, List.drop_left' rfl]

theorem cid_enc {x tok : List UInt8} (hx : x.length ≤ 20) (ht : tok.length = 16) (r : List UInt8) : cid_ (enc x.length ++ (x ++ (tok ++ r))) = some ((x, tok), r) := by
  have e : ∀ n : Nat, n ≤ 20 → enc n = [UInt8.ofNat n] := by decide
  rw [e _ hx, List.singleton_append]
  unfold cid_
  have hn : (UInt8.ofNat x.length).toNat = x.length := by rw [UInt8.toNat_ofNat', Nat.mod_eq_of_lt (by omega)]
  simp only [hn]
  rw [if_pos (by rw [List.length_append]; omega), List.drop_left' rfl, if_pos (by rw [List.length_append]; omega), List.take_left' rfl, List.take_left' ht, List.drop_left' ht]
end

section
set_option linter.unusedVariables false

theorem s4_enc {f F : PF} {a e t d c : Bool} (ha : a = true → OkR f.acks ∧ f.acks ≠ [] ∧ f.delay ≤ 4611686018427387903 ∧ f.acks.length ≤ 65536) (hz : a = false → F.acks = f.acks ∧ F.delay = f.delay) (R : List UInt8) :
    s4 a e t d c F (encs (if a = true then ackNums f else []) ++ R) = s5 e t d c { F with acks := f.acks, delay := f.delay } R := by
  cases a
  · obtain ⟨h1, h2⟩ := hz rfl
    have hF : { F with acks := f.acks, delay := f.delay } = F := by rw [← h1, ← h2]
    rw [hF]
    unfold s4
    simp [encs_none]
  · obtain ⟨h1, h2, h3, h4⟩ := ha rfl
    unfold s4
    simp only [if_true]
    rw [acks_enc h1 h2 h3 h4]

theorem s5_enc {f F : PF} {e t d c : Bool} (h : f.e0 ≤ 4611686018427387903 ∧ f.e1 ≤ 4611686018427387903 ∧ f.e2 ≤ 4611686018427387903) (hz : e = false → f.e0 = 0 ∧ f.e1 = 0 ∧ f.e2 = 0) (R : List UInt8) :
    s5 e t d c F (encs (if e = true then [f.e0, f.e1, f.e2] else []) ++ R) = s8 t d c { F with e0 := f.e0, e1 := f.e1, e2 := f.e2 } R := by
  cases e
  · obtain ⟨h1, h2, h3⟩ := hz rfl
    rw [h1, h2, h3]
    unfold s5 s6 s7
    simp [encs_none, numIf_]
  · have e3 : encs [f.e0, f.e1, f.e2] ++ R = enc f.e0 ++ (enc f.e1 ++ (enc f.e2 ++ R)) := by simp [encs]
    simp only [if_true]
    rw [e3]
    unfold s5 s6 s7 numIf_
    simp only [if_true]
    rw [num_enc h.1]
    simp only
    rw [num_enc h.2.1]
    simp only
    rw [num_enc h.2.2]

theorem s8_enc {f F : PF} {t d c : Bool} (hk : F.kind = f.kind) (hl : f.data.length ≤ 4611686018427387903) (hz : F.data = [] ∧ F.cid = [] ∧ F.token = List.replicate 16 0) (htd : t = true → d = true) (hdc : d = true → c = false)
    (h8 : d = true → t = false → f.kind ≠ 8 ∧ f.data.length = 8) (hd : d = false → f.data = []) (hc0 : c = false → f.cid = [] ∧ f.token = List.replicate 16 0) (hc : c = true → f.cid.length ≤ 20 ∧ f.token.length = 16) (r : List UInt8) :
    s8 t d c F (encs (if t = true then [f.data.length] else []) ++ (encs (if c = true then [f.cid.length] else []) ++ (f.data ++ (f.cid ++ ((if c = true then f.token else []) ++ r))))) = sF { F with data := f.data, cid := f.cid, token := f.token } r := by
  obtain ⟨z1, z2, z3⟩ := hz
  obtain ⟨F1, F2, F3, F4, F5, F6, F7, F8, F9, F10, F11, F12, F13, F14, F15⟩ := F
  dsimp only at hk z1 z2 z3
  subst z1 z2 z3
  cases d
  · have ht : t = false := by
      cases t
      · rfl
      · exact absurd (htd rfl) (by decide)
    subst ht
    rw [hd rfl]
    unfold s8
    cases c
    · obtain ⟨c1, c2⟩ := hc0 rfl
      rw [c1, c2]
      unfold s9
      simp [encs_none]
    · obtain ⟨c1, c2⟩ := hc rfl
      unfold s9
      simp only [Bool.false_eq_true, if_false, if_true, encs_none, List.nil_append, encs_one]
      rw [cid_enc c1 c2]
  · obtain rfl : c = false := hdc rfl
    obtain ⟨c1, c2⟩ := hc0 rfl
    rw [c1, c2]
    unfold s8
    simp only [Bool.false_eq_true, if_false, if_true, encs_none, List.nil_append]
    rw [hk, data_enc hl (fun e => h8 rfl e)]
    simp only
    unfold s9
    simp only [Bool.false_eq_true, if_false]

/-- What stands behind the kind. -/
def restF (f : PF) (r : List UInt8) : List UInt8 :=
  encs (pn f 2 [f.id]) ++ (encs (pn f 4 [f.off]) ++ (encs (pn f 8 [f.code]) ++ (encs (pn f 16 [f.max]) ++ (encs (pn f 128 (ackNums f)) ++ (encs (pn f 256 [f.e0, f.e1, f.e2]) ++
    (encs (pn f 512 [f.data.length]) ++ (encs (pn f 2048 [f.cid.length]) ++ (f.data ++ (f.cid ++ ((if bt (wireP f) 2048 = true then f.token else []) ++ r))))))))))

theorem sP_back {f : PF} (h : MayF f) (h0 : f.kind ≠ 0) (ht : f.token.length = 16) (hal : f.acks.length ≤ 65536) (r : List UInt8) : sP (wireP f) { zP f.kind with fin := f.fin } (restF f r) = some (f, r) := by
  have hw := onW_wire h
  have hc := cls_wire h h0
  obtain ⟨m1, m2, m3, m4, m5, m6, m7, m8, m9⟩ := may_le h
  have hmay := h
  obtain ⟨_, _, _, hk⟩ := h
  obtain ⟨_, k2, _, _, k24, k8⟩ := hk
  have hn := hw.n hc.pad
  unfold sP restF pn
  rw [if_pos hw.b1]
  unfold sM
  rw [hc.pad]
  simp only [Bool.false_eq_true, if_false]
  unfold s0
  rw [numIf_enc m1 hw.id]
  dsimp only
  unfold s1
  rw [numIf_enc m2 hw.off]
  dsimp only
  unfold s2
  rw [numIf_enc m3 hw.code]
  dsimp only
  unfold s3
  rw [numIf_enc m4 hw.max]
  dsimp only
  rw [s4_enc (fun e => ⟨(k2 (hc.acks e)).1, (k2 (hc.acks e)).2, m5, hal⟩) (fun e => by obtain ⟨x1, x2⟩ := hw.acks e; exact ⟨x1.symm, x2.symm⟩)]
  rw [s5_enc ⟨m6, m7, m8⟩ hw.ecn]
  refine Eq.trans (s8_enc (f := f) (by rfl) m9 ⟨by rfl, by rfl, by rfl⟩ hc.told hc.dc (fun e e' => by rcases hc.eight e e' with h | h <;> exact ⟨by omega, k8 (by omega)⟩) hw.data hw.cid (fun e => ⟨(k24 (hc.cid e)).2.1, ht⟩) r) ?_
  have hF : ∀ g : PF, g = f → MayF f → sF g r = some (f, r) := fun g hg hm => by subst hg; exact sF_may hm r
  refine hF _ ?_ hmay
  obtain ⟨a1, a2, a3, a4, a5, a6, a7, a8, a9, a10, a11, a12, a13, a14, a15⟩ := f
  simp only at hn
  subst hn
  rfl

theorem wire_2048 {f : PF} (h : MayF f) : bt (wireP f) 2048 = bt (partsN f.kind) 2048 := by
  unfold wireP
  by_cases hk : f.kind = 8 ∧ f.off = 0
  · rw [if_pos hk, hk.1]; decide
  · rw [if_neg hk]

theorem bytesF_form {f : PF} (h : MayF f) (h0 : f.kind ≠ 0) (r : List UInt8) : bytesF f ++ r = enc (wireN f) ++ restF f r := by
  unfold bytesF restF numsN
  rw [if_neg h0, ← wire_2048 h]
  simp only [encs_app, encs_one, List.append_assoc]

theorem enc_byte : ∀ n : Nat, n < 64 → enc n = [UInt8.ofNat n] := by decide

theorem frame_cons (x : UInt8) (t : List UInt8) : frame_ (x :: t) = if x.toNat / 8 = 1 then sP (strN x.toNat) { zP x.toNat with kind := 8, fin := decide (x.toNat % 2 = 1) } t else sP (partsN x.toNat) (zP x.toNat) t := rfl

theorem frame_first {f : PF} (h : MayF f) (h0 : f.kind ≠ 0) (L : List UInt8) : frame_ (enc (wireN f) ++ L) = sP (wireP f) { zP f.kind with fin := f.fin } L := by
  have h31 := kind_small h
  have hcl := wire_class f.kind h31 h.1 h0
  have hfin := (onW_parts h).2
  by_cases h8 : f.kind = 8
  · have hx : ∀ (n p : Nat) (b : Bool), n < 64 → wireN f = n → wireP f = p → f.fin = b → n / 8 = 1 → strN n = p → decide (n % 2 = 1) = b → frame_ (enc (wireN f) ++ L) = sP (wireP f) { zP f.kind with fin := f.fin } L := by
      intro n p b hn e1 e2 e3 e4 e5 e6
      rw [e1, e2, e3, enc_byte n hn, h8]
      have hb : (UInt8.ofNat n).toNat = n := by rw [UInt8.toNat_ofNat', Nat.mod_eq_of_lt (by omega)]
      rw [List.singleton_append, frame_cons, hb, if_pos e4, e5, e6]
      have hrec : ({ zP n with kind := 8, fin := b } : PF) = { zP 8 with fin := b } := rfl
      rw [hrec]
    by_cases ho : f.off = 0
    · have hp : wireP f = 1603 := by unfold wireP; rw [if_pos ⟨h8, ho⟩]; decide
      rcases Bool.eq_false_or_eq_true f.fin with hf | hf
      · exact hx 11 1603 true (by omega) (by unfold wireN; simp [h8, ho, hf]) hp hf rfl (by decide) (by decide)
      · exact hx 10 1603 false (by omega) (by unfold wireN; simp [h8, ho, hf]) hp hf rfl (by decide) (by decide)
    · have hp : wireP f = 1607 := by unfold wireP; rw [if_neg (fun e => ho e.2), h8]; decide
      rcases Bool.eq_false_or_eq_true f.fin with hf | hf
      · exact hx 15 1607 true (by omega) (by unfold wireN; simp [h8, ho, hf]) hp hf rfl (by decide) (by decide)
      · exact hx 14 1607 false (by omega) (by unfold wireN; simp [h8, ho, hf]) hp hf rfl (by decide) (by decide)
  · have hf : f.fin = false := hfin (by
      cases hb : bt (partsN f.kind) 64
      · rfl
      · exact absurd (hcl.2.2.2.2.2.2.1 hb) h8)
    have hp : wireP f = partsN f.kind := by unfold wireP; rw [if_neg (fun e => h8 e.1)]
    have hn : wireN f = f.kind := by unfold wireN; rw [if_neg h8]
    have hb : (UInt8.ofNat f.kind).toNat = f.kind := by rw [UInt8.toNat_ofNat', Nat.mod_eq_of_lt (by omega)]
    have hq : ¬ f.kind / 8 = 1 := fun e => h8 (hcl.2.2.2.2.2.2.2.1 (by omega) (by omega))
    rw [hn, hp, hf, enc_byte _ (by omega)]
    rw [List.singleton_append, frame_cons, hb, if_neg hq]
    have hrec : ({ zP f.kind with fin := false } : PF) = zP f.kind := rfl
    rw [hrec]

/-- What was appended is read as it was, whatever stands behind. -/
theorem frame_back {f : PF} (h : MayF f) (h0 : f.kind ≠ 0) (ht : f.token.length = 16) (hal : f.acks.length ≤ 65536) (r : List UInt8) : frame_ (bytesF f ++ r) = some (f, r) := by
  rw [bytesF_form h h0, frame_first h h0, sP_back h h0 ht hal]
end

section
set_option linter.unusedVariables false

theorem num_more {l r : List UInt8} {n : Nat} (h : num_ l = some (n, r)) (s : List UInt8) : num_ (l ++ s) = some (n, r ++ s) := by
  unfold num_ at h ⊢
  rcases htk : tk l with _ | ⟨m, k⟩
  · rw [htk] at h; cases h
  · rw [htk] at h
    simp only [Option.some.injEq, Prod.mk.injEq] at h
    obtain ⟨rfl, rfl⟩ := h
    obtain ⟨x, t, rfl, rfl, h1, h2⟩ := tk_some htk
    have e : tk (x :: t ++ s) = some (m, cls x) := by
      rw [List.cons_append, tk_long (by rw [List.length_append]; omega), List.take_append_of_le_length (by omega), ← h2]
    rw [e]
    simp only
    rw [List.drop_append_of_le_length (by simpa using h1)]

theorem numIf_more {b : Bool} {l r : List UInt8} {n : Nat} (h : numIf_ b l = some (n, r)) (s : List UInt8) : numIf_ b (l ++ s) = some (n, r ++ s) := by
  unfold numIf_ at h ⊢
  cases b
  · simp only [Bool.false_eq_true, if_false, Option.some.injEq, Prod.mk.injEq] at h ⊢
    obtain ⟨rfl, rfl⟩ := h
    exact ⟨rfl, rfl⟩
  · simp only [if_true] at h ⊢
    exact num_more h s

theorem down_more {top : Nat} {l r : List UInt8} {x : Nat × Nat} (h : down_ top l = some (x, r)) (s : List UInt8) : down_ top (l ++ s) = some (x, r ++ s) := by
  unfold down_ at h ⊢
  rcases hn : num_ l with _ | ⟨n, t⟩
  · rw [hn] at h; cases h
  · rw [hn] at h
    rw [num_more hn s]
    simp only at h ⊢
    split at h
    · rename_i hle
      rw [if_pos hle]
      simp only [Option.some.injEq, Prod.mk.injEq] at h ⊢
      obtain ⟨rfl, rfl⟩ := h
      exact ⟨rfl, rfl⟩
    · cases h

theorem more_more : ∀ (m above : Nat) (acc : List (Nat × Nat)) (l : List UInt8) (rs : List (Nat × Nat)) (r : List UInt8), more_ m above acc l = some (rs, r) → ∀ s, more_ m above acc (l ++ s) = some (rs, r ++ s)
  | 0, above, acc, l, rs, r, h, s => by
    simp only [more_, Option.some.injEq, Prod.mk.injEq] at h ⊢
    obtain ⟨rfl, rfl⟩ := h
    exact ⟨rfl, rfl⟩
  | m + 1, above, acc, l, rs, r, h, s => by
    unfold more_ at h ⊢
    rcases hn : num_ l with _ | ⟨gap, l1⟩
    · rw [hn] at h; cases h
    · rw [hn] at h
      rw [num_more hn s]
      simp only at h ⊢
      by_cases hle : gap + 2 ≤ above
      · rw [if_pos hle] at h ⊢
        rcases hd : down_ (above - gap - 2) l1 with _ | ⟨x, l2⟩
        · rw [hd] at h; cases h
        · rw [hd] at h
          rw [down_more hd s]
          simp only at h ⊢
          exact more_more m x.1 (acc ++ [x]) l2 rs r h s
      · rw [if_neg hle] at h; cases h

theorem acks_more {l r : List UInt8} {x : List (Nat × Nat) × Nat} (h : acks_ l = some (x, r)) (s : List UInt8) : acks_ (l ++ s) = some (x, r ++ s) := by
  unfold acks_ at h ⊢
  rcases h1 : num_ l with _ | ⟨top, l1⟩
  · rw [h1] at h; cases h
  rw [h1] at h
  rw [num_more h1 s]
  simp only at h ⊢
  rcases h2 : num_ l1 with _ | ⟨delay, l2⟩
  · rw [h2] at h; cases h
  rw [h2] at h
  rw [num_more h2 s]
  simp only at h ⊢
  rcases h3 : num_ l2 with _ | ⟨more, l3⟩
  · rw [h3] at h; cases h
  rw [h3] at h
  rw [num_more h3 s]
  simp only at h ⊢
  rcases h4 : down_ top l3 with _ | ⟨r4, l4⟩
  · rw [h4] at h; cases h
  rw [h4] at h
  rw [down_more h4 s]
  simp only at h ⊢
  rcases h5 : more_ more r4.1 [r4] l4 with _ | ⟨rs, l5⟩
  · rw [h5] at h; cases h
  rw [h5] at h
  rw [more_more _ _ _ _ _ _ h5 s]
  simp only [Option.some.injEq, Prod.mk.injEq] at h ⊢
  obtain ⟨h6, rfl⟩ := h
  exact ⟨h6, rfl⟩

theorem data_more {t : Bool} {k : Nat} {l r x : List UInt8} (ht : t = true ∨ k ≠ 8) (h : data_ t k l = some (x, r)) (s : List UInt8) : data_ t k (l ++ s) = some (x, r ++ s) := by
  have key : ∀ (n : Nat) (l' : List UInt8), (if n ≤ l'.length then some (l'.take n, l'.drop n) else none : Option (List UInt8 × List UInt8)) = some (x, r) →
      (if n ≤ (l' ++ s).length then some ((l' ++ s).take n, (l' ++ s).drop n) else none) = some (x, r ++ s) := by
    intro n l' h
    split at h
    · rename_i hle
      simp only [Option.some.injEq, Prod.mk.injEq] at h
      obtain ⟨rfl, rfl⟩ := h
      rw [if_pos (by rw [List.length_append]; omega), List.take_append_of_le_length hle, List.drop_append_of_le_length hle]
    · cases h
  unfold data_ len_ at h ⊢
  cases t
  · have hk : k ≠ 8 := by rcases ht with h | h; cases h; exact h
    simp only [Bool.false_eq_true, if_false, if_neg hk] at h ⊢
    exact key _ _ h
  · simp only [if_true] at h ⊢
    rcases hn : num_ l with _ | ⟨n, l'⟩
    · rw [hn] at h; cases h
    · rw [hn] at h
      rw [num_more hn s]
      exact key _ _ h

theorem cid_more {l r : List UInt8} {x : List UInt8 × List UInt8} (h : cid_ l = some (x, r)) (s : List UInt8) : cid_ (l ++ s) = some (x, r ++ s) := by
  cases l with
  | nil => cases h
  | cons y t =>
    rw [List.cons_append]
    unfold cid_ at h ⊢
    simp only at h ⊢
    split at h
    · rename_i h1
      rw [if_pos (by rw [List.length_append]; omega), List.drop_append_of_le_length h1, List.take_append_of_le_length h1]
      split at h
      · rename_i h2
        rw [if_pos (by rw [List.length_append]; omega), List.take_append_of_le_length h2, List.drop_append_of_le_length h2]
        simp only [Option.some.injEq, Prod.mk.injEq] at h ⊢
        obtain ⟨rfl, rfl⟩ := h
        exact ⟨rfl, rfl⟩
      · cases h
    · cases h

theorem sF_more {f g : PF} {l r : List UInt8} (h : sF f l = some (g, r)) (s : List UInt8) : sF f (l ++ s) = some (g, r ++ s) := by
  unfold sF at h ⊢
  split at h
  · rename_i hm
    rw [if_pos hm]
    simp only [Option.some.injEq, Prod.mk.injEq] at h ⊢
    obtain ⟨rfl, rfl⟩ := h
    exact ⟨rfl, rfl⟩
  · cases h

theorem s9_more {c : Bool} {f g : PF} {l r : List UInt8} (h : s9 c f l = some (g, r)) (s : List UInt8) : s9 c f (l ++ s) = some (g, r ++ s) := by
  unfold s9 at h ⊢
  split at h
  · rename_i hc
    rw [if_pos hc]
    rcases hn : cid_ l with _ | ⟨⟨a, b⟩, l'⟩
    · rw [hn] at h; cases h
    · rw [hn] at h
      rw [cid_more hn s]
      simp only at h ⊢
      exact sF_more h s
  · rename_i hc
    rw [if_neg hc]
    exact sF_more h s

theorem s8_more {t d c : Bool} {f g : PF} {l r : List UInt8} (ht : t = true ∨ f.kind ≠ 8) (h : s8 t d c f l = some (g, r)) (s : List UInt8) : s8 t d c f (l ++ s) = some (g, r ++ s) := by
  unfold s8 at h ⊢
  split at h
  · rename_i hc
    rw [if_pos hc]
    rcases hn : data_ t f.kind l with _ | ⟨x, l'⟩
    · rw [hn] at h; cases h
    · rw [hn] at h
      rw [data_more ht hn s]
      simp only at h ⊢
      exact s9_more h s
  · rename_i hc
    rw [if_neg hc]
    exact s9_more h s

theorem s5_more {e t d c : Bool} {f g : PF} {l r : List UInt8} (ht : t = true ∨ f.kind ≠ 8) (h : s5 e t d c f l = some (g, r)) (s : List UInt8) : s5 e t d c f (l ++ s) = some (g, r ++ s) := by
  unfold s5 at h ⊢
  rcases h1 : numIf_ e l with _ | ⟨n1, l1⟩
  · rw [h1] at h; cases h
  rw [h1] at h
  rw [numIf_more h1 s]
  simp only at h ⊢
  unfold s6 at h ⊢
  rcases h2 : numIf_ e l1 with _ | ⟨n2, l2⟩
  · rw [h2] at h; cases h
  rw [h2] at h
  rw [numIf_more h2 s]
  simp only at h ⊢
  unfold s7 at h ⊢
  rcases h3 : numIf_ e l2 with _ | ⟨n3, l3⟩
  · rw [h3] at h; cases h
  rw [h3] at h
  rw [numIf_more h3 s]
  simp only at h ⊢
  exact s8_more (by exact ht) h s

theorem s4_more {a e t d c : Bool} {f g : PF} {l r : List UInt8} (ht : t = true ∨ f.kind ≠ 8) (h : s4 a e t d c f l = some (g, r)) (s : List UInt8) : s4 a e t d c f (l ++ s) = some (g, r ++ s) := by
  unfold s4 at h ⊢
  split at h
  · rename_i hc
    rw [if_pos hc]
    rcases hn : acks_ l with _ | ⟨⟨x, y⟩, l'⟩
    · rw [hn] at h; cases h
    · rw [hn] at h
      rw [acks_more hn s]
      simp only at h ⊢
      exact s5_more (by exact ht) h s
  · rename_i hc
    rw [if_neg hc]
    exact s5_more (by exact ht) h s

theorem s0_more {i j o x a e t d c : Bool} {f g : PF} {l r : List UInt8} (ht : t = true ∨ f.kind ≠ 8) (h : s0 i j o x a e t d c f l = some (g, r)) (s : List UInt8) : s0 i j o x a e t d c f (l ++ s) = some (g, r ++ s) := by
  unfold s0 at h ⊢
  rcases h1 : numIf_ i l with _ | ⟨n1, l1⟩
  · rw [h1] at h; cases h
  rw [h1] at h
  rw [numIf_more h1 s]
  simp only at h ⊢
  unfold s1 at h ⊢
  rcases h2 : numIf_ j l1 with _ | ⟨n2, l2⟩
  · rw [h2] at h; cases h
  rw [h2] at h
  rw [numIf_more h2 s]
  simp only at h ⊢
  unfold s2 at h ⊢
  rcases h3 : numIf_ o l2 with _ | ⟨n3, l3⟩
  · rw [h3] at h; cases h
  rw [h3] at h
  rw [numIf_more h3 s]
  simp only at h ⊢
  unfold s3 at h ⊢
  rcases h4 : numIf_ x l3 with _ | ⟨n4, l4⟩
  · rw [h4] at h; cases h
  rw [h4] at h
  rw [numIf_more h4 s]
  simp only at h ⊢
  exact s4_more (by exact ht) h s

theorem sP_more {p : Nat} {f g : PF} {l r : List UInt8} (hp : bt p 32 = false) (ht : bt p 512 = true ∨ f.kind ≠ 8) (h : sP p f l = some (g, r)) (s : List UInt8) : sP p f (l ++ s) = some (g, r ++ s) := by
  unfold sP at h ⊢
  split at h
  · rename_i hc
    rw [if_pos hc]
    unfold sM at h ⊢
    rw [hp] at h ⊢
    simp only [Bool.false_eq_true, if_false] at h ⊢
    exact s0_more ht h s
  · cases h

/-- A kind on the wire whose frames end of themselves. -/
theorem frame_more {x : UInt8} {t r : List UInt8} {g : PF} (hx : (x.toNat / 8 = 1 ∧ bt (strN x.toNat) 512 = true) ∨ (¬ x.toNat / 8 = 1 ∧ bt (partsN x.toNat) 32 = false)) (h : frame_ (x :: t) = some (g, r)) (s : List UInt8) : frame_ (x :: (t ++ s)) = some (g, r ++ s) := by
  rw [frame_cons] at h ⊢
  rcases hx with ⟨h1, h2⟩ | ⟨h1, h2⟩
  · rw [if_pos h1] at h ⊢
    exact sP_more (by
      have h8 : ∀ k : Nat, k < 16 → k / 8 = 1 → bt (strN k) 32 = false := by decide +kernel
      exact h8 _ (by omega) h1) (.inl h2) h s
  · rw [if_neg h1] at h ⊢
    exact sP_more h2 (.inr (by show x.toNat ≠ 8; omega)) h s

theorem wire_first {f : PF} (h : MayF f) (h0 : f.kind ≠ 0) : wireN f < 64 ∧ ((wireN f / 8 = 1 ∧ bt (strN (wireN f)) 512 = true) ∨ (¬ wireN f / 8 = 1 ∧ bt (partsN (wireN f)) 32 = false)) := by
  have h31 := kind_small h
  have hcl := wire_class f.kind h31 h.1 h0
  by_cases h8 : f.kind = 8
  · have e : wireN f = 10 ∨ wireN f = 11 ∨ wireN f = 14 ∨ wireN f = 15 := by
      unfold wireN
      rw [if_pos h8]
      split <;> split <;> omega
    have hd : ∀ k : Nat, k < 16 → (k = 10 ∨ k = 11 ∨ k = 14 ∨ k = 15) → k / 8 = 1 ∧ bt (strN k) 512 = true := by decide +kernel
    exact ⟨by omega, .inl (hd _ (by omega) e)⟩
  · have e : wireN f = f.kind := by unfold wireN; rw [if_neg h8]
    rw [e]
    exact ⟨by omega, .inr ⟨fun h' => h8 (hcl.2.2.2.2.2.2.2.1 (by omega) (by omega)), hcl.1⟩⟩

/-- Cut short there is none. -/
theorem frame_cut {f : PF} (h : MayF f) (h0 : f.kind ≠ 0) (ht : f.token.length = 16) (hal : f.acks.length ≤ 65536) (c : Nat) (hc : c < (bytesF f).length) : frame_ ((bytesF f).take c) = none := by
  obtain ⟨w1, w2⟩ := wire_first h h0
  have hb : bytesF f = UInt8.ofNat (wireN f) :: restF f [] := by
    have := bytesF_form h h0 []
    rw [List.append_nil, enc_byte _ w1] at this
    exact this
  have hback := frame_back h h0 ht hal []
  rw [List.append_nil] at hback
  cases c with
  | zero => rfl
  | succ c =>
    rw [hb] at hback hc ⊢
    rw [List.take_succ_cons]
    rcases hq : frame_ (UInt8.ofNat (wireN f) :: (restF f []).take c) with _ | ⟨g, r⟩
    · rfl
    · have hm := frame_more (by rw [UInt8.toNat_ofNat', Nat.mod_eq_of_lt (by omega)]; exact w2) hq ((restF f []).drop c)
      rw [List.take_append_drop, hback] at hm
      simp only [Option.some.injEq, Prod.mk.injEq] at hm
      have hl := congrArg List.length hm.2
      rw [List.length_append, List.length_drop] at hl
      simp only [List.length_cons, List.length_nil] at hc hl
      omega
end

end Go.Proofs.YtkkojhkglcigmaaDoor
