/-
  A frame in memory, field by field; the reader beside it.
-/
import Derived.Test.YtkkojhkglcigmaaDoorKindW
import Derived.Test.YtkkojhkglcigmaaDoorMay
import Derived.Deep.WholeRow
import Derived.Laws.CopyOwn
import Derived.Deep.RegionLaw
namespace Go.Proofs.YtkkojhkglcigmaaDoor
open Go.RowKit
set_option linter.unusedVariables false

theorem PT.grown {w w' : World} {rb B : Nat} (h : PT w) (hg : w.grownBy w' (some rb)) (hB : 0 < B) (hr : B ≤ rb) : PT w' := fun k hk =>
  (World.cell?_of_block (hg.block _ h.lt (by simp; omega))).trans (h k hk)

theorem fin_bit : ∀ k : Nat, k < 256 → (bits .and .u64 (k : Int) 1 != 0) = decide (k % 2 = 1) := by decide +kernel

/-- A new frame's cells. -/
def zRow (k : Int) : Array Value := #[.int .u64 k, .int .u64 0, .int .u64 0, .int .u64 0, .int .u64 0, .int .u64 0, .bool false, .slice none 0 0, .slice none 0 0, .int .u8 0, .int .u8 0, .int .u8 0, .int .u8 0, .int .u8 0, .int .u8 0, .int .u8 0, .int .u8 0, .int .u8 0, .int .u8 0, .int .u8 0, .int .u8 0, .int .u8 0, .int .u8 0, .int .u8 0, .int .u8 0, .slice none 0 0, .int .u64 0, .int .u64 0, .int .u64 0, .int .u64 0]

def zP (k : Nat) : PF := { kind := k, id := 0, off := 0, max := 0, code := 0, n := 0, fin := false, data := [], cid := [], token := List.replicate 16 0, acks := [], delay := 0, e0 := 0, e1 := 0, e2 := 0 }
def zA : SA := { dA := none, dc := 0, cA := none, cc := 0, aA := none, ac := 0 }

theorem zRow_row (k : Nat) : (zRow 0).setIfInBounds 0 (.int .u64 (k : Int)) = (rowF (zP k) zA).toArray := rfl
theorem zRow_row0 : zRow 0 = (rowF (zP 0) zA).toArray := rfl

theorem rowF_one (f : PF) (a : SA) : (rowF f a).toArray.all (·.oneCell') = true := by
  rw [Array.all_eq_true_iff_forall_mem]
  intro v hv
  simp only [List.mem_toArray, rowF, List.mem_append, List.mem_cons, List.not_mem_nil, or_false] at hv
  rcases hv with (rfl | rfl | rfl | rfl | rfl | rfl | rfl | rfl | rfl) | hv | (rfl | rfl | rfl | rfl | rfl) <;> first | rfl | skip
  obtain ⟨x, _, rfl⟩ := List.mem_map.1 hv
  rfl

theorem set_arr (l : List Value) (i : Nat) (v : Value) : l.toArray.setIfInBounds i v = (l.set i v).toArray := by simp

section
variable (f : PF) (a : SA)
theorem set0 (n : Nat) : (rowF f a).toArray.setIfInBounds 0 (.int .u64 (n : Int)) = (rowF { f with kind := n } a).toArray := by rw [set_arr]; rfl
theorem set1 (n : Nat) : (rowF f a).toArray.setIfInBounds 1 (.int .u64 (n : Int)) = (rowF { f with id := n } a).toArray := by rw [set_arr]; rfl
theorem set2 (n : Nat) : (rowF f a).toArray.setIfInBounds 2 (.int .u64 (n : Int)) = (rowF { f with off := n } a).toArray := by rw [set_arr]; rfl
theorem set3 (n : Nat) : (rowF f a).toArray.setIfInBounds 3 (.int .u64 (n : Int)) = (rowF { f with max := n } a).toArray := by rw [set_arr]; rfl
theorem set4 (n : Nat) : (rowF f a).toArray.setIfInBounds 4 (.int .u64 (n : Int)) = (rowF { f with code := n } a).toArray := by rw [set_arr]; rfl
theorem set5 (n : Nat) : (rowF f a).toArray.setIfInBounds 5 (.int .u64 (n : Int)) = (rowF { f with n := n } a).toArray := by rw [set_arr]; rfl
theorem set6 (b : Bool) : (rowF f a).toArray.setIfInBounds 6 (.bool b) = (rowF { f with fin := b } a).toArray := by rw [set_arr]; rfl
theorem set7 (d : List UInt8) (A : Option Addr) (c : Nat) : (rowF f a).toArray.setIfInBounds 7 (.slice A d.length c) = (rowF { f with data := d } { a with dA := A, dc := c }).toArray := by rw [set_arr]; rfl
theorem set8 (d : List UInt8) (A : Option Addr) (c : Nat) : (rowF f a).toArray.setIfInBounds 8 (.slice A d.length c) = (rowF { f with cid := d } { a with cA := A, cc := c }).toArray := by rw [set_arr]; rfl

theorem set_tail (h : f.token.length = 16) (i : Nat) (v : Value) (t : List Value) (ht : t.length = 5) (hd : List Value) (hh : hd.length = 9) :
    (hd ++ (f.token.map cell8 ++ t)).set (25 + i) v = hd ++ (f.token.map cell8 ++ t.set i v) := by
  rw [List.set_append_right _ _ (by omega), List.set_append_right _ _ (by simp [h, hh]; omega)]
  simp [h, hh, show 25 + i - 9 - 16 = i by omega]

theorem set25 (h : f.token.length = 16) (l : List (Nat × Nat)) (A : Option Addr) (c : Nat) : (rowF f a).toArray.setIfInBounds 25 (.slice A l.length c) = (rowF { f with acks := l } { a with aA := A, ac := c }).toArray := by
  rw [set_arr, rowF, show 25 = 25 + 0 from rfl, set_tail f h 0 _ _ rfl _ rfl]; rfl
theorem set26 (h : f.token.length = 16) (n : Nat) : (rowF f a).toArray.setIfInBounds 26 (.int .u64 (n : Int)) = (rowF { f with delay := n } a).toArray := by
  rw [set_arr, rowF, show 26 = 25 + 1 from rfl, set_tail f h 1 _ _ rfl _ rfl]; rfl
theorem set27 (h : f.token.length = 16) (n : Nat) : (rowF f a).toArray.setIfInBounds 27 (.int .u64 (n : Int)) = (rowF { f with e0 := n } a).toArray := by
  rw [set_arr, rowF, show 27 = 25 + 2 from rfl, set_tail f h 2 _ _ rfl _ rfl]; rfl
theorem set28 (h : f.token.length = 16) (n : Nat) : (rowF f a).toArray.setIfInBounds 28 (.int .u64 (n : Int)) = (rowF { f with e1 := n } a).toArray := by
  rw [set_arr, rowF, show 28 = 25 + 3 from rfl, set_tail f h 3 _ _ rfl _ rfl]; rfl
theorem set29 (h : f.token.length = 16) (n : Nat) : (rowF f a).toArray.setIfInBounds 29 (.int .u64 (n : Int)) = (rowF { f with e2 := n } a).toArray := by
  rw [set_arr, rowF, show 29 = 25 + 4 from rfl, set_tail f h 4 _ _ rfl _ rfl]; rfl
end

theorem grown_row (w : World) (g : Nat) (cs : Array Value) : w.grownBy (w.setRow g cs) (some g) := by
  refine ⟨rfl, rfl, rfl, by simp [World.setRow], fun k hk hne => ?_⟩
  have hkg : ¬ g = k := fun e => hne (by rw [e])
  simp [World.setRow, Array.getElem?_modify, hkg]

theorem grown_row_new {a b : World} {row : Option Nat} (h : a.grownBy b row) {g : Nat} (hg : a.heap.size ≤ g) (cs : Array Value) : a.grownBy (b.setRow g cs) row :=
  ⟨h.os, h.tape, h.output, by simp [World.setRow]; exact h.size, fun k hk hne => by
    have := (grown_row b g cs).block k (Nat.lt_of_lt_of_le hk h.size) (by simp; omega)
    exact this.trans (h.block k hk hne)⟩

theorem Wh.row {w : World} {g : Nat} {t : TypeId} {old : Array Value} (h : Wh w g t old) (cs : Array Value) : Wh (w.setRow g cs) g t cs := by
  unfold Wh at h ⊢
  simp [World.setRow, Array.getElem?_modify, h]

theorem Sv.apart {w w' : World} {A : Option Addr} {xs : List Value} {base : Nat} {row : Option Nat} (h : Sv w w.heap.size A xs) (hf : Fresh base A) (hg : w.grownBy w' row) (hr : ∀ k, row = some k → k < base) : Sv w' w'.heap.size A xs := by
  intro hn
  obtain ⟨b, off, rfl, hb, hc⟩ := h hn
  have hbb := hf _ rfl
  refine ⟨b, off, rfl, Nat.lt_of_lt_of_le hb hg.size, fun i v hv => ?_⟩
  exact (World.cell?_of_block (hg.block b hb (fun e => by have := hr b e.symm; simp at hbb; omega))).trans (hc i v hv)

theorem Sr.apart {w w' : World} {A : Option Addr} {l : List (Nat × Nat)} {base : Nat} {row : Option Nat} (h : Sr w w.heap.size A l) (hf : Fresh base A) (hg : w.grownBy w' row) (hr : ∀ k, row = some k → k < base) : Sr w' w'.heap.size A l := by
  intro hn
  obtain ⟨b, off, rfl, hb, hc⟩ := h hn
  have hbb := hf _ rfl
  have hblk := hg.block b hb (fun e => by have := hr b e.symm; simp at hbb; omega)
  exact ⟨b, off, rfl, Nat.lt_of_lt_of_le hb hg.size, fun i x hx => ⟨(World.cell?_of_block hblk).trans (hc i x hx).1, (World.cell?_of_block hblk).trans (hc i x hx).2⟩⟩

/-- What is known of a frame of the call's own: its lists read as they do, behind block g. -/
structure FA (w : World) (g : Nat) (f : PF) (a : SA) : Prop where
  at_ : FrAt w w.heap.size f a
  fd : Fresh (g + 1) a.dA
  fc : Fresh (g + 1) a.cA
  fa : Fresh (g + 1) a.aA

theorem FA.apart {w w' : World} {g : Nat} {f : PF} {a : SA} {row : Option Nat} (h : FA w g f a) (hg : w.grownBy w' row) (hr : ∀ k, row = some k → k ≤ g) : FA w' g f a :=
  ⟨{ h.at_ with data := h.at_.data.apart h.fd hg (fun k hk => by have := hr k hk; omega), cid := h.at_.cid.apart h.fc hg (fun k hk => by have := hr k hk; omega), acks := h.at_.acks.apart h.fa hg (fun k hk => by have := hr k hk; omega) }, h.fd, h.fc, h.fa⟩

/-- A frame at block g (that is new), the reader at rb, and the result's block: while the reader reads. -/
structure FS (w0 w : World) (B rb g : Nat) (f : PF) (a : SA) (l : List UInt8) : Prop where
  wh : Wh w g 32 (rowF f a).toArray
  rd : Rd w B rb l
  gr : w0.grownBy w (some rb)
  res : Wh w w0.heap.size 32 (zRow 0)
  gn : w0.heap.size < g
  rn : rb < w0.heap.size
  Bn : B ≤ rb
  fa : FA w g f a

theorem FS.step {w0 w w' : World} {B rb g : Nat} {f : PF} {a : SA} {l l' : List UInt8} (h : FS w0 w B rb g f a l) (hg : w.grownBy w' (some rb)) (hr : Rd w' B rb l') : FS w0 w' B rb g f a l' :=
  ⟨h.wh.grown hg (by have := h.gn; have := h.rn; simp; omega), hr, grown_trans h.gr hg, h.res.grown hg (by have := h.rn; simp; omega), h.gn, h.rn, h.Bn, h.fa.apart hg (fun k hk => by have := h.gn; have := h.rn; obtain rfl := Option.some.inj hk; omega)⟩

theorem FS.put {w0 w : World} {B rb g : Nat} {f f' : PF} {a a' : SA} {l : List UInt8} (h : FS w0 w B rb g f a l) (i : Nat) (v : Value) (hv : (rowF f a).toArray.setIfInBounds i v = (rowF f' a').toArray) (hfa : FA w g f' a') : FS w0 (w.setCell ⟨g, i, none⟩ v) B rb g f' a' l := by
  have hgn := h.gn
  have hrn := h.rn
  have hB := h.Bn
  exact ⟨by rw [← hv]; exact h.wh.put i v, h.rd.grown (grown_set w g i v) (by simp; omega) (fun k hk => by obtain rfl := Option.some.inj hk; omega), grown_new h.gr (by omega) i v, h.res.far (by simp; omega) v, hgn, hrn, hB,
    hfa.apart (grown_set w g i v) (fun k hk => by obtain rfl := Option.some.inj hk; omega)⟩

theorem FS.draw {w0 w : World} {B rb g : Nat} {f : PF} {a : SA} {l : List UInt8} (h : FS w0 w B rb g f a l) (i : Nat) : w.frozen? ⟨g, i, none⟩ = false ∧ w.cell? ⟨g, i, none⟩ = (rowF f a)[i]? :=
  ⟨h.wh.frozen i, (h.wh.cell i).trans (by simp)⟩

theorem lt_big {n : Nat} (h : n ≤ 4611686018427387903) : n < big := by unfold big; omega

section
variable {w0 w : World} {B rb g : Nat} {f : PF} {a : SA} {l : List UInt8}
theorem FS.putId (h : FS w0 w B rb g f a l) (n : Nat) (hn : n ≤ 4611686018427387903) : FS w0 (w.setCell ⟨g, 1, none⟩ (.int .u64 (n : Int))) B rb g { f with id := n } a l :=
  h.put 1 _ (set1 f a n) { h.fa with at_ := { h.fa.at_ with nums := ⟨h.fa.at_.nums.1, lt_big hn, h.fa.at_.nums.2.2⟩ } }
theorem FS.putOff (h : FS w0 w B rb g f a l) (n : Nat) (hn : n ≤ 4611686018427387903) : FS w0 (w.setCell ⟨g, 2, none⟩ (.int .u64 (n : Int))) B rb g { f with off := n } a l :=
  h.put 2 _ (set2 f a n) { h.fa with at_ := { h.fa.at_ with nums := ⟨h.fa.at_.nums.1, h.fa.at_.nums.2.1, lt_big hn, h.fa.at_.nums.2.2.2⟩ } }
theorem FS.putMax (h : FS w0 w B rb g f a l) (n : Nat) (hn : n ≤ 4611686018427387903) : FS w0 (w.setCell ⟨g, 3, none⟩ (.int .u64 (n : Int))) B rb g { f with max := n } a l :=
  h.put 3 _ (set3 f a n) { h.fa with at_ := { h.fa.at_ with nums := ⟨h.fa.at_.nums.1, h.fa.at_.nums.2.1, h.fa.at_.nums.2.2.1, lt_big hn, h.fa.at_.nums.2.2.2.2⟩ } }
theorem FS.putCode (h : FS w0 w B rb g f a l) (n : Nat) (hn : n ≤ 4611686018427387903) : FS w0 (w.setCell ⟨g, 4, none⟩ (.int .u64 (n : Int))) B rb g { f with code := n } a l :=
  h.put 4 _ (set4 f a n) { h.fa with at_ := { h.fa.at_ with nums := ⟨h.fa.at_.nums.1, h.fa.at_.nums.2.1, h.fa.at_.nums.2.2.1, h.fa.at_.nums.2.2.2.1, lt_big hn, h.fa.at_.nums.2.2.2.2.2⟩ } }
theorem FS.putN (h : FS w0 w B rb g f a l) (n : Nat) (hn : n ≤ 4611686018427387903) : FS w0 (w.setCell ⟨g, 5, none⟩ (.int .u64 (n : Int))) B rb g { f with n := n } a l :=
  h.put 5 _ (set5 f a n) { h.fa with at_ := { h.fa.at_ with nums := ⟨h.fa.at_.nums.1, h.fa.at_.nums.2.1, h.fa.at_.nums.2.2.1, h.fa.at_.nums.2.2.2.1, h.fa.at_.nums.2.2.2.2.1, lt_big hn, h.fa.at_.nums.2.2.2.2.2.2⟩ } }
theorem FS.putE0 (h : FS w0 w B rb g f a l) (n : Nat) (hn : n ≤ 4611686018427387903) : FS w0 (w.setCell ⟨g, 27, none⟩ (.int .u64 (n : Int))) B rb g { f with e0 := n } a l :=
  h.put 27 _ (set27 f a h.fa.at_.tok n) { h.fa with at_ := { h.fa.at_ with nums := ⟨h.fa.at_.nums.1, h.fa.at_.nums.2.1, h.fa.at_.nums.2.2.1, h.fa.at_.nums.2.2.2.1, h.fa.at_.nums.2.2.2.2.1, h.fa.at_.nums.2.2.2.2.2.1, h.fa.at_.nums.2.2.2.2.2.2.1, lt_big hn, h.fa.at_.nums.2.2.2.2.2.2.2.2⟩ } }
theorem FS.putE1 (h : FS w0 w B rb g f a l) (n : Nat) (hn : n ≤ 4611686018427387903) : FS w0 (w.setCell ⟨g, 28, none⟩ (.int .u64 (n : Int))) B rb g { f with e1 := n } a l :=
  h.put 28 _ (set28 f a h.fa.at_.tok n) { h.fa with at_ := { h.fa.at_ with nums := ⟨h.fa.at_.nums.1, h.fa.at_.nums.2.1, h.fa.at_.nums.2.2.1, h.fa.at_.nums.2.2.2.1, h.fa.at_.nums.2.2.2.2.1, h.fa.at_.nums.2.2.2.2.2.1, h.fa.at_.nums.2.2.2.2.2.2.1, h.fa.at_.nums.2.2.2.2.2.2.2.1, lt_big hn, h.fa.at_.nums.2.2.2.2.2.2.2.2.2⟩ } }
theorem FS.putE2 (h : FS w0 w B rb g f a l) (n : Nat) (hn : n ≤ 4611686018427387903) : FS w0 (w.setCell ⟨g, 29, none⟩ (.int .u64 (n : Int))) B rb g { f with e2 := n } a l :=
  h.put 29 _ (set29 f a h.fa.at_.tok n) { h.fa with at_ := { h.fa.at_ with nums := ⟨h.fa.at_.nums.1, h.fa.at_.nums.2.1, h.fa.at_.nums.2.2.1, h.fa.at_.nums.2.2.2.1, h.fa.at_.nums.2.2.2.2.1, h.fa.at_.nums.2.2.2.2.2.1, h.fa.at_.nums.2.2.2.2.2.2.1, h.fa.at_.nums.2.2.2.2.2.2.2.1, h.fa.at_.nums.2.2.2.2.2.2.2.2.1, lt_big hn⟩ } }
theorem FS.putKind (h : FS w0 w B rb g f a l) (n : Nat) (hn : n ≤ 4611686018427387903) : FS w0 (w.setCell ⟨g, 0, none⟩ (.int .u64 (n : Int))) B rb g { f with kind := n } a l :=
  h.put 0 _ (set0 f a n) { h.fa with at_ := { h.fa.at_ with nums := ⟨lt_big hn, h.fa.at_.nums.2⟩ } }
theorem FS.putFin (h : FS w0 w B rb g f a l) (b : Bool) : FS w0 (w.setCell ⟨g, 6, none⟩ (.bool b)) B rb g { f with fin := b } a l :=
  h.put 6 _ (set6 f a b) { h.fa with at_ := { h.fa.at_ with } }
theorem FS.putAcks (h : FS w0 w B rb g f a l) (r : List (Nat × Nat)) (A : Option Addr) (c : Nat) (hr : Sr w w.heap.size A r) (hf : Fresh (g + 1) A) (hc : r.length ≤ c) (hm : c ≤ maxLen) (hl : r.length ≤ 140737488355328) (hb : ∀ x ∈ r, x.1 < big ∧ x.2 < big) :
    FS w0 (w.setCell ⟨g, 25, none⟩ (.slice A r.length c)) B rb g { f with acks := r } { a with aA := A, ac := c } l :=
  h.put 25 _ (set25 f a h.fa.at_.tok r A c) { h.fa with at_ := { h.fa.at_ with acks := hr, ac := hc, am := hm, al := hl, ranges := hb }, fa := hf }
theorem FS.putDelay (h : FS w0 w B rb g f a l) (n : Nat) (hn : n ≤ 4611686018427387903) : FS w0 (w.setCell ⟨g, 26, none⟩ (.int .u64 (n : Int))) B rb g { f with delay := n } a l :=
  h.put 26 _ (set26 f a h.fa.at_.tok n) { h.fa with at_ := { h.fa.at_ with nums := ⟨h.fa.at_.nums.1, h.fa.at_.nums.2.1, h.fa.at_.nums.2.2.1, h.fa.at_.nums.2.2.2.1, h.fa.at_.nums.2.2.2.2.1, h.fa.at_.nums.2.2.2.2.2.1, lt_big hn, h.fa.at_.nums.2.2.2.2.2.2.2⟩ } }
theorem FS.putData (h : FS w0 w B rb g f a l) (d : List UInt8) (A : Option Addr) (c : Nat) (hr : Sl w w.heap.size A d) (hf : Fresh (g + 1) A) (hc : d.length ≤ c) (hm : c ≤ maxLen) (hl : d.length ≤ 140737488355328) :
    FS w0 (w.setCell ⟨g, 7, none⟩ (.slice A d.length c)) B rb g { f with data := d } { a with dA := A, dc := c } l :=
  h.put 7 _ (set7 f a d A c) { h.fa with at_ := { h.fa.at_ with data := hr, dc := hc, dm := hm, dl := hl }, fd := hf }
theorem FS.putCid (h : FS w0 w B rb g f a l) (d : List UInt8) (A : Option Addr) (c : Nat) (hr : Sl w w.heap.size A d) (hf : Fresh (g + 1) A) (hc : d.length ≤ c) (hm : c ≤ maxLen) (hl : d.length ≤ 140737488355328) :
    FS w0 (w.setCell ⟨g, 8, none⟩ (.slice A d.length c)) B rb g { f with cid := d } { a with cA := A, cc := c } l :=
  h.put 8 _ (set8 f a d A c) { h.fa with at_ := { h.fa.at_ with cid := hr, cc := hc, cm := hm, cl := hl }, fc := hf }
end

theorem splice16 {hd m k t : List Value} (h9 : hd.length = 9) (h16 : m.length = 16) : (hd ++ (m ++ t)).take 9 ++ (k ++ (hd ++ (m ++ t)).drop (9 + 16)) = hd ++ (k ++ t) := by
  rw [List.take_left' h9, ← List.append_assoc hd m t, List.drop_left' (by rw [List.length_append, h9, h16])]

theorem rowTok (f : PF) (a : SA) (h : f.token.length = 16) (tok : List UInt8) (ht : tok.length = 16) : (rowF f a).toArray.toList.take 9 ++ (tok.map cell8 ++ (rowF f a).toArray.toList.drop (9 + (tok.map cell8).length)) = rowF { f with token := tok } a := by
  rw [List.length_map, ht]
  exact splice16 (h9 := rfl) (h16 := by rw [List.length_map, h])

theorem FS.same {w0 w : World} {B rb g : Nat} {f : PF} {a : SA} {l : List UInt8} (h : FS w0 w B rb g f a l) (w' : World) (h1 : w'.heap = w.heap) (h2 : w'.os = w.os) (h3 : w'.tape = w.tape) (h4 : w'.output = w.output) : FS w0 w' B rb g f a l := by
  have hg : w.grownBy w' none := ⟨h2, h3, h4, by rw [h1]; exact Nat.le_refl _, fun _ _ _ => by rw [h1]⟩
  exact ⟨h.wh.grown hg (by simp), h.rd.grown hg (by simp) (by simp), grown_trans h.gr ⟨h2, h3, h4, hg.size, fun k hk _ => by rw [h1]⟩, h.res.grown hg (by simp), h.gn, h.rn, h.Bn, h.fa.apart hg (by simp)⟩

/-- copy into a row, as one step of a region that draws. -/
theorem step_copy_one {P : Program} {ops : Array Oper} {o : Oper} {a : Act} {w : World} {K : Act → World → Prop} {Q : Exit → Act → World → Prop} {E : Prop} (hgd : o.guard = none) (d s : Operand) (dT sT : TypeId)
    (ho : o.op = .call { callee := .builtin .copy, args := #[d, s], argTypes := #[dT, sT] }) (elem : TypeId) (hu : P.underlying dT = some (.slice elem)) (hsz : (P.info? elem).map (·.size) = some 1)
    (g off dLen dCap : Nat) (ad : Addr) (sLen sCap : Nat) (hd : a.eval d = .slice (some ⟨g, off, none⟩) dLen dCap) (hs : a.eval s = .slice (some ad) sLen sCap)
    (cur : Array Value) (t : TypeId) (hg : w.heap[g]? = some (.cells cur t (0, 0))) (cs : List Value) (hn : cs.length = Nat.min sLen dLen)
    (hsrc : ∀ j v, cs[j]? = some v → w.cell? (ad.add j) = some v) (hfit : off + cs.length ≤ cur.size) (h1 : ∀ v ∈ cs, v.oneCell' = true)
    (row : Array Value) (hrow : (cur.toList.take off ++ (cs ++ cur.toList.drop (off + cs.length))).toArray = row)
    (h : K (a.put o.dst (goInt cs.length)) (w.setRow g row)) : if Region.wanted o (yielded ops a.tmps) = true then Oper.wp P o a w K Q else E := by
  have hw : Region.wanted o (yielded ops a.tmps) = true := by simp [Region.wanted, hgd]
  rw [if_pos hw]
  subst hrow
  have hrun := run_copy_row (P := P) w dT sT o.type elem g off dLen dCap ad sLen sCap cur t cs hu hsz hg hn hsrc hfit h1
  unfold Oper.wp
  simp [execOp, ho, resolve, invoke, builtin, hd, hs, hrun, Result.andThen]
  exact h

theorem src_cells {w : World} {b off : Nat} {tt : List UInt8} (h : ∀ i x, tt[i]? = some x → w.cell? ⟨b, off + i, none⟩ = some (.int .u8 (x.toNat : Int))) :
    ∀ j v, (tt.map cell8)[j]? = some v → w.cell? ((⟨b, off, none⟩ : Addr).add j) = some v := fun j v hv => by
  rw [Addr.add_mid]
  rcases hj : tt[j]? with _ | z
  · rw [List.getElem?_map, hj] at hv; cases hv
  · rw [List.getElem?_map, hj] at hv
    obtain rfl := Option.some.inj hv
    exact h j z hj

theorem FS.drew {w0 w : World} {B rb g : Nat} {f : PF} {a : SA} {l : List UInt8} (h : FS w0 w B rb g f a l) : FS w0 w.drew B rb g f a l := by
  have hg : w.grownBy w.drew none := ⟨rfl, rfl, rfl, Nat.le_refl _, fun _ _ _ => rfl⟩
  exact ⟨h.wh.grown hg (by simp), h.rd.grown hg (by simp) (by simp), ⟨h.gr.os, h.gr.tape, h.gr.output, h.gr.size, h.gr.block⟩, h.res.grown hg (by simp), h.gn, h.rn, h.Bn, h.fa.apart hg (by simp)⟩

theorem FS.putTok {w0 w : World} {B rb g : Nat} {f : PF} {a : SA} {l : List UInt8} (h : FS w0 w B rb g f a l) (tok : List UInt8) (ht : tok.length = 16) :
    FS w0 (w.setRow g (rowF { f with token := tok } a).toArray) B rb g { f with token := tok } a l := by
  have hgn := h.gn
  have hrn := h.rn
  have hB := h.Bn
  have hgr := grown_row w g (rowF { f with token := tok } a).toArray
  have hfa : FA w g { f with token := tok } a := { h.fa with at_ := { h.fa.at_ with tok := ht } }
  exact ⟨h.wh.row _, h.rd.grown hgr (by simp; omega) (fun k hk => by obtain rfl := Option.some.inj hk; omega), grown_row_new h.gr (by omega) _, h.res.grown hgr (by simp; omega), hgn, hrn, hB,
    hfa.apart hgr (fun k hk => by obtain rfl := Option.some.inj hk; omega)⟩

theorem zFA (w : World) (g k : Nat) (hk : k < 256) : FA w g (zP k) zA :=
  ⟨⟨rfl, Sv.nil _ _ _, Sv.nil _ _ _, fun h => absurd rfl h, Nat.zero_le _, Nat.zero_le _, Nat.zero_le _, Nat.zero_le _, Nat.zero_le _, Nat.zero_le _, Nat.zero_le _, Nat.zero_le _, Nat.zero_le _,
    ⟨by show k < big; unfold big; omega, by show 0 < big; unfold big; omega, by show 0 < big; unfold big; omega, by show 0 < big; unfold big; omega, by show 0 < big; unfold big; omega, by show 0 < big; unfold big; omega, by show 0 < big; unfold big; omega, by show 0 < big; unfold big; omega, by show 0 < big; unfold big; omega, by show 0 < big; unfold big; omega⟩, (fun x hx => by cases hx)⟩,
    (fun p hp => by cases hp), (fun p hp => by cases hp), (fun p hp => by cases hp)⟩

end Go.Proofs.YtkkojhkglcigmaaDoor
