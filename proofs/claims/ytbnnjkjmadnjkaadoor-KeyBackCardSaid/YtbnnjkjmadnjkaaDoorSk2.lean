/-
  Packets' keys as lists of bytes: the spec. No program is named here.
  Plain mathematics of layer 8: bytes, their sums, products and other ones. No program is named here.
  A packet number's nonce, as bytes. No program is named here.
  Steps of a walk that several functions share: append of a slice of whatever address; strings made of slices. No program is named here.
-/
import Derived.Test.YtbnnjkjmadnjkaaDoorSk1
import Derived.Laws.BitsAllLaws
import Derived.Test.YtbnnjkjmadnjkaaDoorSk0
import Derived.Deep.AppendLies
import Derived.OwnWalk
import Derived.RegionTactic
namespace Go.Proofs.YtbnnjkjmadnjkaaDoor
section
open Go.RowKit
set_option linter.unusedVariables false

def qKey : List UInt8 := [113, 117, 105, 99, 32, 107, 101, 121]
def qIv : List UInt8 := [113, 117, 105, 99, 32, 105, 118]
def qHp : List UInt8 := [113, 117, 105, 99, 32, 104, 112]
def qKu : List UInt8 := [113, 117, 105, 99, 32, 107, 117]
def cIn : List UInt8 := [99, 108, 105, 101, 110, 116, 32, 105, 110]
def sIn : List UInt8 := [115, 101, 114, 118, 101, 114, 32, 105, 110]
def saltK : List UInt8 := [56, 118, 44, 247, 245, 89, 52, 179, 77, 23, 154, 230, 164, 200, 12, 173, 204, 187, 127, 10]

/-- Keys. -/
structure KS where
  sec : List UInt8
  key : List UInt8
  iv : List UInt8
  hp : List UInt8
  ph : Nat
structure KS.Ok (k : KS) : Prop where
  sec : k.sec.length = 32
  key : k.key.length = 16
  iv : k.iv.length = 12
  hp : k.hp.length = 16
  ph : k.ph < 18446744073709551616
/-- Their cells. -/
def kyL (k : KS) : List Value := k.sec.map cell8 ++ (k.key.map cell8 ++ (k.iv.map cell8 ++ (k.hp.map cell8 ++ [.int .u64 (k.ph : Int)])))
def kyRow (k : KS) : Array Value := (kyL k).toArray
def kyZ : KS := ⟨List.replicate 32 0, List.replicate 16 0, List.replicate 12 0, List.replicate 16 0, 0⟩
theorem kyZ_ok : kyZ.Ok := ⟨by simp [kyZ], by simp [kyZ], by simp [kyZ], by simp [kyZ], by simp [kyZ]⟩
theorem KS.Ok.len {k : KS} (h : k.Ok) : (kyL k).length = 77 := by
  obtain ⟨h1, h2, h3, h4, _⟩ := h
  simp [kyL, h1, h2, h3, h4]
theorem KS.Ok.size {k : KS} (h : k.Ok) : (kyRow k).size = 77 := by rw [kyRow, List.size_toArray, h.len]
theorem kyRow_list (k : KS) : (kyRow k).toList = kyL k := rfl
theorem kyRow_one (k : KS) : (kyRow k).all (·.oneCell') = true := by
  simp only [kyRow, kyL, List.all_toArray, List.all_append, List.all_map, Bool.and_eq_true]
  refine ⟨?_, ?_, ?_, ?_, ?_⟩
  all_goals first
    | rfl
    | (rw [List.all_eq_true]; intro x _; rfl)
/-- A field within the cells. -/
theorem ky_at {a b c : List Value} {n : Nat} (hn : a.length = n) : ∀ (j : Nat) (v : Value), b[j]? = some v → (a ++ (b ++ c))[n + j]? = some v := fun j v h => by
  rw [List.getElem?_append_right (by omega), hn, Nat.add_sub_cancel_left]
  rw [List.getElem?_append_left (List.getElem?_eq_some_iff.1 h).1]
  exact h
theorem KS.Ok.f0 {k : KS} (h : k.Ok) : ∀ (j : Nat) (v : Value), (k.sec.map cell8)[j]? = some v → (kyL k)[0 + j]? = some v := ky_at (a := []) (by simp)
theorem KS.Ok.f1 {k : KS} (h : k.Ok) : ∀ (j : Nat) (v : Value), (k.key.map cell8)[j]? = some v → (kyL k)[32 + j]? = some v := ky_at (by simp [h.sec])
theorem KS.Ok.f2 {k : KS} (h : k.Ok) : ∀ (j : Nat) (v : Value), (k.iv.map cell8)[j]? = some v → (kyL k)[48 + j]? = some v := fun j v hv => by
  have := ky_at (a := k.sec.map cell8 ++ k.key.map cell8) (b := k.iv.map cell8) (c := k.hp.map cell8 ++ [.int .u64 (k.ph : Int)]) (n := 48) (by simp [h.sec, h.key]) j v hv
  simpa [kyL] using this
theorem KS.Ok.f3 {k : KS} (h : k.Ok) : ∀ (j : Nat) (v : Value), (k.hp.map cell8)[j]? = some v → (kyL k)[60 + j]? = some v := fun j v hv => by
  have := ky_at (a := k.sec.map cell8 ++ (k.key.map cell8 ++ k.iv.map cell8)) (b := k.hp.map cell8) (c := [.int .u64 (k.ph : Int)]) (n := 60) (by simp [h.sec, h.key, h.iv]) j v hv
  simpa [kyL] using this
theorem KS.Ok.f4 {k : KS} (h : k.Ok) : (kyL k)[76]? = some (.int .u64 (k.ph : Int)) := by
  have := ky_at (a := k.sec.map cell8 ++ (k.key.map cell8 ++ (k.iv.map cell8 ++ k.hp.map cell8))) (b := [.int .u64 (k.ph : Int)]) (c := []) (n := 76) (by simp [h.sec, h.key, h.iv, h.hp]) 0 _ rfl
  simpa [kyL] using this
/-- A field laid over. -/
theorem KS.Ok.put3 {k : KS} (h : k.Ok) {x : List UInt8} (hx : x.length = 16) : (kyL k).take 60 ++ (x.map cell8 ++ (kyL k).drop 76) = kyL { k with hp := x } := by
  obtain ⟨h1, h2, h3, h4, h5⟩ := h
  have e : kyL k = (k.sec.map cell8 ++ (k.key.map cell8 ++ k.iv.map cell8)) ++ (k.hp.map cell8 ++ [.int .u64 (k.ph : Int)]) := by simp [kyL]
  rw [e, List.take_left' (by simp [h1, h2, h3]), List.drop_append, List.drop_eq_nil_of_le (by simp [h1, h2, h3]), List.nil_append, List.drop_append, List.drop_eq_nil_of_le (by simp [h1, h2, h3, h4])]
  simp [kyL, h1, h2, h3, h4]
theorem KS.Ok.put4 {k : KS} (h : k.Ok) (n : Nat) : (kyRow k).setIfInBounds 76 (.int .u64 (n : Int)) = kyRow { k with ph := n } := by
  obtain ⟨h1, h2, h3, h4, h5⟩ := h
  rw [kyRow, List.setIfInBounds_toArray, kyRow]
  congr 1
  have e : kyL k = (k.sec.map cell8 ++ (k.key.map cell8 ++ (k.iv.map cell8 ++ k.hp.map cell8))) ++ [.int .u64 (k.ph : Int)] := by simp [kyL]
  rw [e, List.set_append_right _ _ (by simp [h1, h2, h3, h4])]
  simp [kyL, h1, h2, h3, h4]

theorem labI_len (ks : List W32) (s lab ctx : List UInt8) (n : Int) (h1 : 1 ≤ n) (h2 : n ≤ 8160) (h3 : lab.length ≤ 249) (h4 : ctx.length ≤ 255) : (labI ks s lab ctx n).length = n.toNat := by
  rw [labI, if_neg (by omega), expK_len]
/-- The keys of a secret, the next ones, a connection id's first ones, its token. -/
def lb (s lab : List UInt8) (n : Int) : List UInt8 := labI kW s lab [] n
def ofK (s : List UInt8) : KS := ⟨s, lb s qKey 16, lb s qIv 12, lb s qHp 16, 0⟩
def nextK (k : KS) : KS := { ofK (lb k.sec qKu 32) with hp := k.hp, ph := (k.ph + 1) % 18446744073709551616 }
def initK (lab cid : List UInt8) : KS := ofK (lb (macK kW saltK cid) lab 32)
def tokK (static cid : List UInt8) : List UInt8 := (macK kW static cid).take 16
theorem lb_len (s lab : List UInt8) (n : Nat) (h1 : 1 ≤ n) (h2 : n ≤ 8160) (h3 : lab.length ≤ 249) : (lb s lab (n : Int)).length = n := by
  rw [lb, labI_len _ _ _ _ _ (by omega) (by omega) h3 (by simp)]
  simp
theorem ofK_ok {s : List UInt8} (h : s.length = 32) : (ofK s).Ok := ⟨h, lb_len s qKey 16 (by omega) (by omega) (by decide), lb_len s qIv 12 (by omega) (by omega) (by decide), lb_len s qHp 16 (by omega) (by omega) (by decide), by simp [ofK]⟩
theorem lb32 (s lab : List UInt8) (h3 : lab.length ≤ 249) : (lb s lab 32).length = 32 := lb_len s lab 32 (by omega) (by omega) h3
theorem nextK_ok {k : KS} (h : k.Ok) : (nextK k).Ok := by
  have h1 := ofK_ok (lb32 k.sec qKu (by decide))
  exact ⟨h1.sec, h1.key, h1.iv, h.hp, Nat.mod_lt _ (by decide)⟩
theorem initK_ok (lab cid : List UInt8) (h : lab.length ≤ 249) : (initK lab cid).Ok := ofK_ok (lb32 _ lab h)
theorem tokK_len (s c : List UInt8) : (tokK s c).length = 16 := by rw [tokK, List.length_take, macK_len]; rfl
/-- The chapter's rows. -/
def exCid : List UInt8 := [131, 148, 200, 240, 62, 81, 87, 8]
theorem ex_c : initK cIn exCid = ⟨(initK cIn exCid).sec, [31, 54, 150, 19, 221, 118, 213, 70, 119, 48, 239, 203, 227, 177, 162, 45], [250, 4, 75, 47, 66, 163, 253, 59, 70, 251, 37, 92], [159, 80, 68, 158, 4, 160, 232, 16, 40, 58, 30, 153, 51, 173, 237, 210], 0⟩ := by
  have h1 : (initK cIn exCid).key = [31, 54, 150, 19, 221, 118, 213, 70, 119, 48, 239, 203, 227, 177, 162, 45] := by decide +kernel
  have h2 : (initK cIn exCid).iv = [250, 4, 75, 47, 66, 163, 253, 59, 70, 251, 37, 92] := by decide +kernel
  have h3 : (initK cIn exCid).hp = [159, 80, 68, 158, 4, 160, 232, 16, 40, 58, 30, 153, 51, 173, 237, 210] := by decide +kernel
  rw [← h1, ← h2, ← h3]
  rfl
theorem ex_s : initK sIn exCid = ⟨(initK sIn exCid).sec, [207, 58, 83, 49, 101, 60, 54, 76, 136, 240, 243, 121, 182, 6, 126, 55], [10, 193, 73, 60, 161, 144, 88, 83, 176, 187, 160, 62], [194, 6, 184, 217, 185, 240, 243, 118, 68, 67, 11, 73, 14, 234, 163, 20], 0⟩ := by
  have h1 : (initK sIn exCid).key = [207, 58, 83, 49, 101, 60, 54, 76, 136, 240, 243, 121, 182, 6, 126, 55] := by decide +kernel
  have h2 : (initK sIn exCid).iv = [10, 193, 73, 60, 161, 144, 88, 83, 176, 187, 160, 62] := by decide +kernel
  have h3 : (initK sIn exCid).hp = [194, 6, 184, 217, 185, 240, 243, 118, 68, 67, 11, 73, 14, 234, 163, 20] := by decide +kernel
  rw [← h1, ← h2, ← h3]
  rfl
end

section
open Go.RowKit

theorem b_inj {x y : UInt8} (h : (x.toNat : Int) = (y.toNat : Int)) : x = y := UInt8.toNat_inj.1 (Int.ofNat_inj.1 h)
theorem b_eq (x y : UInt8) : ((x.toNat : Int) == (y.toNat : Int)) = decide (x = y) := by
  by_cases h : x = y
  · subst h; simp
  · rw [decide_eq_false h]
    simp only [beq_eq_false_iff_ne, ne_eq]
    exact fun e => h (b_inj e)
theorem b_xor (x y : UInt8) : bits .xor .u8 (x.toNat : Int) (y.toNat : Int) = ((x ^^^ y).toNat : Int) := by
  rw [u8_xor_nat _ _ x.toNat_lt y.toNat_lt, UInt8.toNat_xor]
theorem b_of {m n : Int} (h : m = n) : Ending.returned (.int .u8 m) = .returned (.int .u8 n) := by rw [h]

/-- A byte, multiplied by 2. -/
def tw (x : UInt8) : UInt8 := (x * 2) ^^^ ((x / 128) * 27)
theorem b_tw (x : UInt8) : bits .xor .u8 ((x.toNat : Int) * 2 % 256) ((x.toNat : Int) / 128 * 27) = ((tw x).toNat : Int) := by
  have hx := x.toNat_lt
  have e1 : (x.toNat : Int) * 2 % 256 = ((x * 2 : UInt8).toNat : Int) := by
    rw [UInt8.toNat_mul]; simp
  have e2 : (x.toNat : Int) / 128 * 27 = (((x / 128) * 27 : UInt8).toNat : Int) := by
    rw [UInt8.toNat_mul, UInt8.toNat_div]
    have : x.toNat / 128 * 27 < 256 := by omega
    simp
    omega
  rw [e1, e2, b_xor]
  rfl


set_option maxRecDepth 10000 in
def oT : List UInt8 := [99, 124, 119, 123, 242, 107, 111, 197, 48, 1, 103, 43, 254, 215, 171, 118, 202, 130, 201, 125, 250, 89, 71, 240, 173, 212, 162, 175, 156, 164, 114, 192, 183, 253, 147, 38, 54, 63, 247, 204, 52, 165, 229, 241, 113, 216, 49, 21, 4, 199, 35, 195, 24, 150, 5, 154, 7, 18, 128, 226, 235, 39, 178, 117, 9, 131, 44, 26, 27, 110, 90, 160, 82, 59, 214, 179, 41, 227, 47, 132, 83, 209, 0, 237, 32, 252, 177, 91, 106, 203, 190, 57, 74, 76, 88, 207, 208, 239, 170, 251, 67, 77, 51, 133, 69, 249, 2, 127, 80, 60, 159, 168, 81, 163, 64, 143, 146, 157, 56, 245, 188, 182, 218, 33, 16, 255, 243, 210, 205, 12, 19, 236, 95, 151, 68, 23, 196, 167, 126, 61, 100, 93, 25, 115, 96, 129, 79, 220, 34, 42, 144, 136, 70, 238, 184, 20, 222, 94, 11, 219, 224, 50, 58, 10, 73, 6, 36, 92, 194, 211, 172, 98, 145, 149, 228, 121, 231, 200, 55, 109, 141, 213, 78, 169, 108, 86, 244, 234, 101, 122, 174, 8, 186, 120, 37, 46, 28, 166, 180, 198, 232, 221, 116, 31, 75, 189, 139, 138, 112, 62, 181, 102, 72, 3, 246, 14, 97, 53, 87, 185, 134, 193, 29, 158, 225, 248, 152, 17, 105, 217, 142, 148, 155, 30, 135, 233, 206, 85, 40, 223, 140, 161, 137, 13, 191, 230, 66, 104, 65, 153, 45, 15, 176, 84, 187, 22]
theorem oT_len : oT.length = 256 := by decide +kernel
def sB (x : UInt8) : UInt8 := oT.getD x.toNat 0

/-- Two bytes, multiplied, as the document's own answer does it: a round, the rounds. -/
def tmO (out a b : UInt8) : UInt8 := if b % 2 = 1 then out ^^^ a else out
def tmA (a : UInt8) : UInt8 := if 128 ≤ a then (2 * a) ^^^ 27 else 2 * a
def tmAN (a : UInt8) : Nat → UInt8
  | 0 => a
  | k + 1 => tmA (tmAN a k)
def tmBN (b : UInt8) : Nat → UInt8
  | 0 => b
  | k + 1 => tmBN b k / 2
def tmON (a b : UInt8) : Nat → UInt8
  | 0 => 0
  | k + 1 => tmO (tmON a b k) (tmAN a k) (tmBN b k)
def tm (a b : UInt8) : UInt8 := tmON a b 8

/-- The power of 254, its rounds. -/
def pwX (b : UInt8) : Nat → UInt8
  | 0 => b
  | k + 1 => tm (pwX b k) (pwX b k)
def pwY (b : UInt8) : Nat → UInt8
  | 0 => 1
  | 1 => 1
  | k + 2 => tm (pwY b (k + 1)) (pwX b (k + 1))
/-- A byte, turned to the left; the five turns' sum. -/
def rl (y : UInt8) : UInt8 := 2 * y + y / 128
def rlN (y : UInt8) : Nat → UInt8
  | 0 => y
  | k + 1 => rl (rlN y k)
def rsN (y : UInt8) : Nat → UInt8
  | 0 => 99
  | k + 1 => rsN y k ^^^ rlN y k
def sR (b : UInt8) : UInt8 := rsN (pwY b 8) 5

theorem all256 (p : UInt8 → Prop) [DecidablePred p] (h : ∀ n : Fin 256, p (UInt8.ofNat n.val)) (x : UInt8) : p x := by
  have := h ⟨x.toNat, x.toNat_lt⟩
  simpa using this

theorem sR_sB (x : UInt8) : sR x = sB x := all256 (fun x => sR x = sB x) (by decide +kernel) x
theorem tm_2 (x : UInt8) : tm 2 x = tw x := all256 (fun x => tm 2 x = tw x) (by decide +kernel) x
theorem tm_2' (x : UInt8) : tm x 2 = tw x := all256 (fun x => tm x 2 = tw x) (by decide +kernel) x
theorem tm_3 (x : UInt8) : tm 3 x = tw x ^^^ x := all256 (fun x => tm 3 x = tw x ^^^ x) (by decide +kernel) x

/-- No two bytes have one other one. -/
def sI (y : UInt8) : UInt8 := UInt8.ofNat (oT.idxOf y)
theorem sI_sB (x : UInt8) : sI (sB x) = x := all256 (fun x => sI (sB x) = x) (by decide +kernel) x
theorem sB_inj {x y : UInt8} (h : sB x = sB y) : x = y := by rw [← sI_sB x, ← sI_sB y, h]
end

section
open Go.RowKit
set_option linter.unusedVariables false

/-- j bytes done, the last one first. -/
def nonJ (iv : List UInt8) (pn : Nat) : Nat → List UInt8
  | 0 => iv
  | j + 1 => (nonJ iv pn j).set (11 - j) ((nonJ iv pn j).getD (11 - j) 0 ^^^ UInt8.ofNat (pn / 256 ^ j % 256))
def nonK (iv : List UInt8) (pn : Nat) : List UInt8 := nonJ iv pn 8
theorem nonJ_len (iv : List UInt8) (pn j : Nat) : (nonJ iv pn j).length = iv.length := by
  induction j with
  | zero => rfl
  | succ j ih => rw [nonJ, List.length_set, ih]
theorem nonK_len {iv : List UInt8} (h : iv.length = 12) (pn : Nat) : (nonK iv pn).length = 12 := by rw [nonK, nonJ_len, h]
/-- As the document lays it: a list of its own, all twelve. -/
def rnJ (iv : List UInt8) (pn : Nat) : Nat → List UInt8
  | 0 => List.replicate 12 0
  | j + 1 => (rnJ iv pn j).set (11 - j) (iv.getD (11 - j) 0 ^^^ UInt8.ofNat (pn / 256 ^ j % 256))
theorem rnJ_len (iv : List UInt8) (pn j : Nat) : (rnJ iv pn j).length = 12 := by
  induction j with
  | zero => rfl
  | succ j ih => rw [rnJ, List.length_set, ih]
theorem pn_high {pn j : Nat} (h : pn < 18446744073709551616) (hj : 8 ≤ j) : pn / 256 ^ j = 0 := by
  refine Nat.div_eq_of_lt (Nat.lt_of_lt_of_le h ?_)
  have := Nat.pow_le_pow_right (n := 256) (by omega) hj
  exact Nat.le_trans (by decide) this
theorem u8_xor0 (x : UInt8) : x ^^^ UInt8.ofNat 0 = x := by
  apply UInt8.toNat_inj.1
  rw [UInt8.toNat_xor]
  simp
theorem rn_all {iv : List UInt8} (h : iv.length = 12) {pn : Nat} (hp : pn < 18446744073709551616) : rnJ iv pn 12 = nonK iv pn := by
  match iv, h with
  | [x0, x1, x2, x3, x4, x5, x6, x7, x8, x9, x10, x11], _ =>
    have e8 := pn_high hp (j := 8) (by omega)
    have e9 := pn_high hp (j := 9) (by omega)
    have e10 := pn_high hp (j := 10) (by omega)
    have e11 := pn_high hp (j := 11) (by omega)
    rw [nonK, rnJ, rnJ, rnJ, rnJ, e8, e9, e10, e11]
    simp only [rnJ, nonJ, List.replicate, List.set, List.getD_cons_succ, List.getD_cons_zero, Nat.sub_self, show 11 - 1 = 10 from rfl, show 11 - 2 = 9 from rfl, show 11 - 3 = 8 from rfl, show 11 - 4 = 7 from rfl, show 11 - 5 = 6 from rfl, show 11 - 6 = 5 from rfl, show 11 - 7 = 4 from rfl, show 11 - 8 = 3 from rfl, show 11 - 9 = 2 from rfl, show 11 - 10 = 1 from rfl, Nat.sub_zero, Nat.zero_mod, u8_xor0]
/-- The bytes that a packet number's nonce lays, one by one. -/
theorem byte_pn (n k : Nat) : (((n / 256 ^ k : Nat) : Int) % 256) = ((UInt8.ofNat (n / 256 ^ k % 256)).toNat : Int) := by
  rw [UInt8.toNat_ofNat']
  omega
end

section
open Go.RowKit

section
variable {P : Program} (w : World)

theorem run_append_nil (base : Nat) (t ty e : TypeId) (i : TypeInfo) (ht : P.underlying t = some (.slice e)) (hi : P.info? e = some i)
    (v : Value) (n : Nat) (xs : List Value) (hown : w.ownsRow base e 1 v n xs) (c : Nat) : (Builtin.append_ #[t, t] ty #[v, .slice none 0 c]).run P w = .ok v w := by
  rcases hown.2 with ⟨rfl, rfl⟩ | ⟨g, cap, cur, rfl, _, _, hnc, _⟩
  · simp [Builtin.append_, run_underlying ht, sizeOf, typeInfo, hi, Builtin.lenOf, Builtin.firstCells]
  · simp [Builtin.append_, run_underlying ht, sizeOf, typeInfo, hi, Builtin.lenOf, Builtin.firstCells, hnc, storeCells]

/-- What an append of a slice that reads as a list leaves, wherever the slice lies. -/
theorem run_append_sv (base : Nat) (t ty e : TypeId) (i : TypeInfo) (z : Value) (bytes : Nat) (ht : P.underlying t = some (.slice e)) (hi : P.info? e = some i) (hz : i.zero = some z)
    (hsize : i.size = 1) (hby : i.bytes = bytes) (hzs : z.cells.size = 1)
    (v : Value) (n : Nat) (xs : List Value) (hown : w.ownsRow base e 1 v n xs)
    (B : Nat) (A : Option Addr) (m c : Nat) (news : List Value) (hr : Sv w B A news) (hm : news.length = m) (h1 : ∀ u ∈ news, u.oneCell' = true)
    (h63 : n + m ≤ maxLen) (hbytes : (n + m) * bytes ≤ 140737488355328) (hbase : base ≤ w.heap.size) :
    ∃ v' w', (Builtin.append_ #[t, t] ty #[v, .slice A m c]).run P w = .ok v' w' ∧ w'.ownsRow base e 1 v' (n + m) (xs ++ news) ∧ w.grownBy w' v.ownBlock ∧
      (v'.ownBlock = v.ownBlock ∨ v'.ownBlock = some w.heap.size) := by
  subst hm
  rcases A with _ | ad
  · have hn : news = [] := by
      cases news with
      | nil => rfl
      | cons u us =>
        obtain ⟨b, off, h, _⟩ := hr (by simp)
        cases h
    subst hn
    exact ⟨v, w, run_append_nil w base t ty e i ht hi v n xs hown c, by simpa using hown, World.grownBy.refl w _, .inl rfl⟩
  · have hcells : ∀ j u, news[j]? = some u → w.cell? (ad.add j) = some u := by
      intro j u hu
      obtain ⟨b, off, h, _, hc⟩ := hr (by rintro rfl; simp at hu)
      obtain rfl := Option.some.inj h
      rw [Addr.add_lit]
      exact hc j u hu
    obtain ⟨v', w', hrun, h2, h3, _, h5⟩ := run_append_own_at (P := P) w base t ty e i z 1 bytes ht hi hz hsize hby hzs (by omega) v n xs hown ad _ c news (by omega) hcells h1 h63 hbytes hbase
    exact ⟨v', w', hrun, h2, h3, h5⟩

theorem wpList_append_sv {ops : Array Oper} {rest : List Oper} {o : Oper} {a : Act} {Q : Exit → Act → World → Prop} (hgd : o.guard = none) (s x : Operand) (t : TypeId)
    (ho : o.op = .call { callee := .builtin .append, args := #[s, x], argTypes := #[t, t] })
    (base : Nat) (e : TypeId) (i : TypeInfo) (z : Value) (bytes : Nat) (ht : P.underlying t = some (.slice e)) (hi : P.info? e = some i) (hz : i.zero = some z)
    (hsize : i.size = 1) (hby : i.bytes = bytes) (hzs : z.cells.size = 1)
    (v : Value) (n : Nat) (xs : List Value) (hs : a.eval s = v) (hown : w.ownsRow base e 1 v n xs)
    (B : Nat) (A : Option Addr) (m c : Nat) (news : List Value) (hx : a.eval x = .slice A m c) (hr : Sv w B A news) (hm : news.length = m) (h1 : ∀ u ∈ news, u.oneCell' = true)
    (h63 : n + m ≤ maxLen) (hbytes : (n + m) * bytes ≤ 140737488355328) (hbase : base ≤ w.heap.size)
    (h : ∀ v' w', w'.ownsRow base e 1 v' (n + m) (xs ++ news) → w.grownBy w' v.ownBlock → (v'.ownBlock = v.ownBlock ∨ v'.ownBlock = some w.heap.size) → wpList P ops Q rest (a.put o.dst v') w') :
    wpList P ops Q (o :: rest) a w := by
  refine wpList_plain hgd fun K hK => ?_
  obtain ⟨v', w', hrun, h2, h3, h4⟩ := run_append_sv (P := P) w base t o.type e i z bytes ht hi hz hsize hby hzs v n xs hown B A m c news hr hm h1 h63 hbytes hbase
  unfold Oper.wp execOp
  simp only [ho, resolve, invoke, builtin, Sem.run_bind, Sem.run_pure, Result.andThen_ok, List.map_toArray, List.map_cons, List.map_nil, hs, hx, hrun]
  exact hK _ _ (h v' w' h2 h3 h4)
end

theorem cell8_one (l : List UInt8) : ∀ u ∈ l.map cell8, u.oneCell' = true := by
  intro u hu
  obtain ⟨_, _, rfl⟩ := List.mem_map.1 hu
  rfl

/-- A new block of one cell, as a slice. -/
theorem sv_new (w : World) (v : Value) (t : TypeId) : Sv (w.alloc (.cells #[v] t)) (w.heap.size + 1) (some ⟨w.heap.size, 0, none⟩) [v] := by
  intro _
  refine ⟨w.heap.size, 0, rfl, by omega, fun i u hu => ?_⟩
  have := cell_one_new w v t i u hu
  rw [Addr.add_lit] at this
  exact this

/-- 'byte(n >> at)'. -/
theorem be_cell (n k : Nat) : Value.int .u8 ((n : Int) / 2 ^ (8 * k) % 256) = cell8 (UInt8.ofNat (n / 256 ^ k % 256)) := by
  unfold cell8
  rw [be_head, show (256 : Nat) ^ k = 2 ^ (8 * k) by rw [Nat.pow_mul]]
  congr 1

/-- The form of a slice that a call of ours made. -/
theorem own_form {w : World} {base : Nat} {e : TypeId} {v : Value} {n : Nat} {xs : List Value} (h : w.ownsRow base e 1 v n xs) : ∃ A c, v = .slice A n c ∧ n ≤ c ∧ c ≤ maxLen := by
  rcases h.2 with ⟨rfl, rfl⟩ | ⟨g, cap, cur, rfl, _, _, h1, h2, _⟩
  · exact ⟨none, 0, rfl, Nat.le_refl _, Nat.zero_le _⟩
  · exact ⟨_, _, rfl, h1, h2⟩

theorem own_some {w : World} {base : Nat} {e : TypeId} {v : Value} {n g : Nat} {xs : List Value} (h : w.ownsRow base e 1 v n xs) (hg : v.ownBlock = some g) : ∃ c, v = .slice (some ⟨g, 0, none⟩) n c ∧ n ≤ c ∧ c ≤ maxLen := by
  rcases h.2 with ⟨rfl, rfl⟩ | ⟨g', cap, cur, rfl, _, _, h1, h2, _⟩
  · simp [Value.ownBlock] at hg
  · simp [Value.ownBlock] at hg
    subst hg
    exact ⟨_, rfl, h1, h2⟩

theorem own_below {w w' : World} {base : Nat} {e : TypeId} {v : Value} {n : Nat} {xs : List Value} (h : w.ownsRow base e 1 v n xs) (hb : Below w.heap.size w w') : w'.ownsRow base e 1 v n xs := by
  refine ⟨h.1, ?_⟩
  rcases h.2 with hn | ⟨g, cap, cur, rfl, hbs, hgg, rest⟩
  · exact .inl hn
  · exact .inr ⟨g, cap, cur, rfl, hbs, (hb.block g (Array.getElem?_eq_some_iff.1 hgg).1).trans hgg, rest⟩

theorem own_ne {w : World} {base g : Nat} {e : TypeId} {v : Value} {n : Nat} {xs : List Value} (h : w.ownsRow base e 1 v n xs) (hg : g < base) : v.ownBlock = none ∨ v.ownBlock ≠ some g := by
  refine .inr fun hq => ?_
  have := (h.lt g hq).1
  omega

/-- The string that bytes are. -/
def strB (l : List UInt8) : ByteArray := ⟨l.toArray⟩

theorem strB_of (l : List UInt8) : strOfNums (l.map fun x => (x.toNat : Int)) = strB l := by
  unfold strOfNums strB
  rw [List.map_map]
  congr 2
  conv => rhs; rw [← List.map_id l]
  apply List.map_congr_left
  intro x _
  simp

/-- 'string(s)' of a slice that reads as bytes. -/
theorem run_string_sl {P : Program} (w : World) (src dst e : TypeId) (hs : P.underlying src = some (.slice e)) (he : P.underlying e = some (.int .u8)) (hd : P.underlying dst = some .string)
    (B : Nat) (A : Option Addr) (n c : Nat) (l : List UInt8) (hr : Sl w B A l) (hn : l.length = n) : (convert src dst (.slice A n c)).run P w = .ok (.string (strB l)) w := by
  subst hn
  rcases A with _ | ad
  · have hl : l = [] := by
      cases l with
      | nil => rfl
      | cons x t =>
        obtain ⟨b, off, h, _⟩ := hr (by simp)
        cases h
    subst hl
    exact run_convert_bytes_nil w src e hs he _ c dst hd
  · by_cases h0 : l = []
    · subst h0
      obtain ⟨b, off, spot⟩ := ad
      rw [run_convert_bytes_string w src dst e _ _ c hs he hd, run_bytesToString w _ _ c [] (by
        have := run_loadCells_list (P := P) w ⟨b, off, spot⟩ ([] : List Value) (fun j v hj => by simp at hj)
        simpa using this)]
      rfl
    · obtain ⟨b, off, h, _, hc⟩ := hr (by simpa using h0)
      obtain rfl := Option.some.inj h
      have := run_convert_bytes_arg (P := P) w src e hs he b off l.length c (l.map fun x => (x.toNat : Int)) (by simp) (fun i hi => by
        have := hc i (cell8 l[i]) (by simp [hi])
        rw [this]
        simp [cell8, hi]) dst hd
      rw [this, strB_of]
end
end Go.Proofs.YtbnnjkjmadnjkaaDoor
