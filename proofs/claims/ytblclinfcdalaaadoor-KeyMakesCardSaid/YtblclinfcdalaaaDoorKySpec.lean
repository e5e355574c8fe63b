/-
  Packets' keys as lists of bytes: the spec. No program is named here.
-/
import Derived.Test.YtblclinfcdalaaaDoorKSpec
namespace Go.Proofs.YtblclinfcdalaaaDoor
open Go.RowKit
set_option linter.unusedVariables false

def qKey : List UInt8 := [113, 117, 105, 99, 32, 107, 101, 121]
def qIv : List UInt8 := [113, 117, 105, 99, 32, 105, 118]
def qHp : List UInt8 := [113, 117, 105, 99, 32, 104, 112]
def qKu : List UInt8 := [113, 117, 105, 99, 32, 107, 117]
def cIn : List UInt8 := [99, 108, 105, 101, 110, 116, 32, 105, 110]
def sIn : List UInt8 := [115, 101, 114, 118, 101, 114, 32, 105, 110]
def saltK : List UInt8 := [56, 118, 44, 247, 245, 89, 52, 179, 77, 23, 154, 230, 164, 200, 12, 173, 204, 187, 127, 10]

/-- Keys. -/
structure KS where
  sec : List UInt8
  key : List UInt8
  iv : List UInt8
  hp : List UInt8
  ph : Nat
structure KS.Ok (k : KS) : Prop where
  sec : k.sec.length = 32
  key : k.key.length = 16
  iv : k.iv.length = 12
  hp : k.hp.length = 16
  ph : k.ph < 18446744073709551616
/-- Their cells. -/
def kyL (k : KS) : List Value := k.sec.map cell8 ++ (k.key.map cell8 ++ (k.iv.map cell8 ++ (k.hp.map cell8 ++ [.int .u64 (k.ph : Int)])))
def kyRow (k : KS) : Array Value := (kyL k).toArray
def kyZ : KS := ⟨List.replicate 32 0, List.replicate 16 0, List.replicate 12 0, List.replicate 16 0, 0⟩
theorem kyZ_ok : kyZ.Ok := ⟨by simp [kyZ], by simp [kyZ], by simp [kyZ], by simp [kyZ], by simp [kyZ]⟩
theorem KS.Ok.len {k : KS} (h : k.Ok) : (kyL k).length = 77 := by
  obtain ⟨h1, h2, h3, h4, _⟩ := h
  simp [kyL, h1, h2, h3, h4]
theorem KS.Ok.size {k : KS} (h : k.Ok) : (kyRow k).size = 77 := by rw [kyRow, List.size_toArray, h.len]
theorem kyRow_list (k : KS) : (kyRow k).toList = kyL k := rfl
theorem kyRow_one (k : KS) : (kyRow k).all (·.oneCell') = true := by
  simp only [kyRow, kyL, List.all_toArray, List.all_append, List.all_map, Bool.and_eq_true]
  refine ⟨?_, ?_, ?_, ?_, ?_⟩
  all_goals first
    | rfl
    | (rw [List.all_eq_true]; intro x _; rfl)
/-- A field within the cells. -/
theorem ky_at {a b c : List Value} {n : Nat} (hn : a.length = n) : ∀ (j : Nat) (v : Value), b[j]? = some v → (a ++ (b ++ c))[n + j]? = some v := fun j v h => by
  rw [List.getElem?_append_right (by omega), hn, Nat.add_sub_cancel_left]
  rw [List.getElem?_append_left (List.getElem?_eq_some_iff.1 h).1]
  exact h
theorem KS.Ok.f0 {k : KS} (h : k.Ok) : ∀ (j : Nat) (v : Value), (k.sec.map cell8)[j]? = some v → (kyL k)[0 + j]? = some v := ky_at (a := []) (by simp)
theorem KS.Ok.f1 {k : KS} (h : k.Ok) : ∀ (j : Nat) (v : Value), (k.key.map cell8)[j]? = some v → (kyL k)[32 + j]? = some v := ky_at (by simp [h.sec])
theorem KS.Ok.f2 {k : KS} (h : k.Ok) : ∀ (j : Nat) (v : Value), (k.iv.map cell8)[j]? = some v → (kyL k)[48 + j]? = some v := fun j v hv => by
  have := ky_at (a := k.sec.map cell8 ++ k.key.map cell8) (b := k.iv.map cell8) (c := k.hp.map cell8 ++ [.int .u64 (k.ph : Int)]) (n := 48) (by simp [h.sec, h.key]) j v hv
  simpa [kyL] using this
theorem KS.Ok.f3 {k : KS} (h : k.Ok) : ∀ (j : Nat) (v : Value), (k.hp.map cell8)[j]? = some v → (kyL k)[60 + j]? = some v := fun j v hv => by
  have := ky_at (a := k.sec.map cell8 ++ (k.key.map cell8 ++ k.iv.map cell8)) (b := k.hp.map cell8) (c := [.int .u64 (k.ph : Int)]) (n := 60) (by simp [h.sec, h.key, h.iv]) j v hv
  simpa [kyL] using this
theorem KS.Ok.f4 {k : KS} (h : k.Ok) : (kyL k)[76]? = some (.int .u64 (k.ph : Int)) := by
  have := ky_at (a := k.sec.map cell8 ++ (k.key.map cell8 ++ (k.iv.map cell8 ++ k.hp.map cell8))) (b := [.int .u64 (k.ph : Int)]) (c := []) (n := 76) (by simp [h.sec, h.key, h.iv, h.hp]) 0 _ rfl
  simpa [kyL] using this
/-- A field laid over. -/
theorem KS.Ok.put3 {k : KS} (h : k.Ok) {x : List UInt8} (hx : x.length = 16) : (kyL k).take 60 ++ (x.map cell8 ++ (kyL k).drop 76) = kyL { k with hp := x } := by
  obtain ⟨h1, h2, h3, h4, h5⟩ := h
  have e : kyL k = (k.sec.map cell8 ++ (k.key.map cell8 ++ k.iv.map cell8)) ++ (k.hp.map cell8 ++ [.int .u64 (k.ph : Int)]) := by simp [kyL]
  rw [e, List.take_left' (by simp [h1, h2, h3]), List.drop_append, List.drop_eq_nil_of_le (by simp [h1, h2, h3]), List.nil_append, List.drop_append, List.drop_eq_nil_of_le (by simp [h1, h2, h3, h4])]
  simp [kyL, h1, h2, h3, h4]
theorem KS.Ok.put4 {k : KS} (h : k.Ok) (n : Nat) : (kyRow k).setIfInBounds 76 (.int .u64 (n : Int)) = kyRow { k with ph := n } := by
  obtain ⟨h1, h2, h3, h4, h5⟩ := h
  rw [kyRow, List.setIfInBounds_toArray, kyRow]
  congr 1
  have e : kyL k = (k.sec.map cell8 ++ (k.key.map cell8 ++ (k.iv.map cell8 ++ k.hp.map cell8))) ++ [.int .u64 (k.ph : Int)] := by simp [kyL]
  rw [e, List.set_append_right _ _ (by simp [h1, h2, h3, h4])]
  simp [kyL, h1, h2, h3, h4]

theorem labI_len (ks : List W32) (s lab ctx : List UInt8) (n : Int) (h1 : 1 ≤ n) (h2 : n ≤ 8160) (h3 : lab.length ≤ 249) (h4 : ctx.length ≤ 255) : (labI ks s lab ctx n).length = n.toNat := by
  rw [labI, if_neg (by omega), expK_len]
/-- The keys of a secret, the next ones, a connection id's first ones, its token. -/
def lb (s lab : List UInt8) (n : Int) : List UInt8 := labI kW s lab [] n
def ofK (s : List UInt8) : KS := ⟨s, lb s qKey 16, lb s qIv 12, lb s qHp 16, 0⟩
def nextK (k : KS) : KS := { ofK (lb k.sec qKu 32) with hp := k.hp, ph := (k.ph + 1) % 18446744073709551616 }
def initK (lab cid : List UInt8) : KS := ofK (lb (macK kW saltK cid) lab 32)
def tokK (static cid : List UInt8) : List UInt8 := (macK kW static cid).take 16
theorem lb_len (s lab : List UInt8) (n : Nat) (h1 : 1 ≤ n) (h2 : n ≤ 8160) (h3 : lab.length ≤ 249) : (lb s lab (n : Int)).length = n := by
  rw [lb, labI_len _ _ _ _ _ (by omega) (by omega) h3 (by simp)]
  simp
theorem ofK_ok {s : List UInt8} (h : s.length = 32) : (ofK s).Ok := ⟨h, lb_len s qKey 16 (by omega) (by omega) (by decide), lb_len s qIv 12 (by omega) (by omega) (by decide), lb_len s qHp 16 (by omega) (by omega) (by decide), by simp [ofK]⟩
theorem lb32 (s lab : List UInt8) (h3 : lab.length ≤ 249) : (lb s lab 32).length = 32 := lb_len s lab 32 (by omega) (by omega) h3
theorem nextK_ok {k : KS} (h : k.Ok) : (nextK k).Ok := by
  have h1 := ofK_ok (lb32 k.sec qKu (by decide))
  exact ⟨h1.sec, h1.key, h1.iv, h.hp, Nat.mod_lt _ (by decide)⟩
theorem initK_ok (lab cid : List UInt8) (h : lab.length ≤ 249) : (initK lab cid).Ok := ofK_ok (lb32 _ lab h)
theorem tokK_len (s c : List UInt8) : (tokK s c).length = 16 := by rw [tokK, List.length_take, macK_len]; rfl
/-- The chapter's rows. -/
def exCid : List UInt8 := [131, 148, 200, 240, 62, 81, 87, 8]
theorem ex_c : initK cIn exCid = ⟨(initK cIn exCid).sec, [31, 54, 150, 19, 221, 118, 213, 70, 119, 48, 239, 203, 227, 177, 162, 45], [250, 4, 75, 47, 66, 163, 253, 59, 70, 251, 37, 92], [159, 80, 68, 158, 4, 160, 232, 16, 40, 58, 30, 153, 51, 173, 237, 210], 0⟩ := by
  have h1 : (initK cIn exCid).key = [31, 54, 150, 19, 221, 118, 213, 70, 119, 48, 239, 203, 227, 177, 162, 45] := by decide +kernel
  have h2 : (initK cIn exCid).iv = [250, 4, 75, 47, 66, 163, 253, 59, 70, 251, 37, 92] := by decide +kernel
  have h3 : (initK cIn exCid).hp = [159, 80, 68, 158, 4, 160, 232, 16, 40, 58, 30, 153, 51, 173, 237, 210] := by decide +kernel
  rw [← h1, ← h2, ← h3]
  rfl
theorem ex_s : initK sIn exCid = ⟨(initK sIn exCid).sec, [207, 58, 83, 49, 101, 60, 54, 76, 136, 240, 243, 121, 182, 6, 126, 55], [10, 193, 73, 60, 161, 144, 88, 83, 176, 187, 160, 62], [194, 6, 184, 217, 185, 240, 243, 118, 68, 67, 11, 73, 14, 234, 163, 20], 0⟩ := by
  have h1 : (initK sIn exCid).key = [207, 58, 83, 49, 101, 60, 54, 76, 136, 240, 243, 121, 182, 6, 126, 55] := by decide +kernel
  have h2 : (initK sIn exCid).iv = [10, 193, 73, 60, 161, 144, 88, 83, 176, 187, 160, 62] := by decide +kernel
  have h3 : (initK sIn exCid).hp = [194, 6, 184, 217, 185, 240, 243, 118, 68, 67, 11, 73, 14, 234, 163, 20] := by decide +kernel
  rw [← h1, ← h2, ← h3]
  rfl
end Go.Proofs.YtblclinfcdalaaaDoor
