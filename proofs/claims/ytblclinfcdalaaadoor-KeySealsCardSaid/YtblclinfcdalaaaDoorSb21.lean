/-
  Words for a row of bytes of the call's own that is appended to, and for blocks that stand beside it. No program is named here.
  A block whose first cells read as bytes, with the row's size, so that it can be one's own again. No program is named here.
  (key.mask).first, (key.mask).turn. Printed by tools/gen_kpfirst.py.
  The document's own shift and turn (hostlerref06).
-/
import Derived.Test.YtblclinfcdalaaaDoorSb2
import Derived.Test.YtblclinfcdalaaaDoorSb1
import Derived.OwnWalk
import Derived.Deep.OwnRows
import Derived.Test.YtblclinfcdalaaaDoorSb20
import Derived.IntWalk
import Derived.Test.YtblclinfcdalaaaDoorSb0
import Derived.Test.YtblclinfcdalaaaDoorProg
namespace Go.Proofs.YtblclinfcdalaaaDoor
section
open Go.RowKit

/-- Own bytes d at v, all below base as it was in w. -/
def OwB (base : Nat) (e : TypeId) (w wr : World) (v : Value) (d : List UInt8) : Prop := wr.ownsRow base e 1 v d.length (d.map cell8) ∧ Below base w wr ∧ base ≤ wr.heap.size
theorem OwB.below {base : Nat} {e : TypeId} {w wr w' : World} {v : Value} {d : List UInt8} (h : OwB base e w wr v d) (hb : Below wr.heap.size wr w') : OwB base e w w' v d :=
  ⟨own_below h.1 hb, h.2.1.trans (hb.mono h.2.2), Nat.le_trans h.2.2 hb.size⟩
theorem OwB.more {base : Nat} {e : TypeId} {w wr w2 : World} {v v2 : Value} {d : List UInt8} (h : OwB base e w wr v d) (x : UInt8) (o : Obj) (h1 : w2.ownsRow base e 1 v2 (d.length + 1) (d.map cell8 ++ [cell8 x])) (h2 : (wr.alloc o).grownBy w2 v.ownBlock) : OwB base e w w2 v2 (d ++ [x]) := by
  refine ⟨?_, ?_, ?_⟩
  · rw [List.length_append, List.map_append]
    exact h1
  · exact (h.2.1.alloc h.2.2 o).grown h2 (by have := h.2.2; simp; omega) (fun q hq => (h.1.lt q hq).1)
  · have k1 := h2.size
    have k2 := h.2.2
    have k3 : (wr.alloc o).heap.size = wr.heap.size + 1 := by simp
    omega
theorem OwB.more' {base : Nat} {e : TypeId} {w wr w2 : World} {v v2 : Value} {d : List UInt8} (h : OwB base e w wr v d) (x : List UInt8) (h1 : w2.ownsRow base e 1 v2 (d.length + x.length) (d.map cell8 ++ x.map cell8)) (h2 : wr.grownBy w2 v.ownBlock) : OwB base e w w2 v2 (d ++ x) :=
  ⟨by rw [List.length_append, List.map_append]; exact h1, h.2.1.grown h2 h.2.2 (fun q hq => (h.1.lt q hq).1), Nat.le_trans h.2.2 h2.size⟩
/-- A block that stands, and is not the own row's. -/
def Kp (wr : World) (v : Value) (b : Nat) (t : TypeId) (cs : Array Value) : Prop := Wh wr b t cs ∧ v.ownBlock ≠ some b
theorem Kp.below {wr w' : World} {v : Value} {b : Nat} {t : TypeId} {cs : Array Value} (h : Kp wr v b t cs) (hb : Below wr.heap.size wr w') : Kp w' v b t cs := ⟨h.1.below hb h.1.lt, h.2⟩
theorem Kp.more' {wr w2 : World} {v v2 : Value} {b : Nat} {t : TypeId} {cs : Array Value} (h : Kp wr v b t cs) (h2 : wr.grownBy w2 v.ownBlock) (h3 : v2.ownBlock = v.ownBlock ∨ v2.ownBlock = some wr.heap.size) : Kp w2 v2 b t cs :=
  ⟨h.1.grown h2 (fun e => h.2 e.symm), by
    rcases h3 with e | e
    · rw [e]; exact h.2
    · rw [e]
      intro e2
      have := Option.some.inj e2
      have := h.1.lt
      omega⟩
theorem Kp.more {wr w2 : World} {v v2 : Value} {b : Nat} {t : TypeId} {cs : Array Value} (h : Kp wr v b t cs) (o : Obj) (h2 : (wr.alloc o).grownBy w2 v.ownBlock) (h3 : v2.ownBlock = v.ownBlock ∨ v2.ownBlock = some (wr.alloc o).heap.size) : Kp w2 v2 b t cs :=
  Kp.more' (wr := wr.alloc o) ⟨h.1.alloc o, h.2⟩ h2 h3
theorem OwB.new {base : Nat} {e : TypeId} {w wr : World} {v : Value} {d : List UInt8} (h : OwB base e w wr v d) {b : Nat} (hb : wr.heap.size ≤ b) : v.ownBlock ≠ some b := fun e => by
  have := (h.1.lt b e).2
  omega

/-- A block whose first cells read as bytes. -/
def Pb (w : World) (g : Nat) (e : TypeId) (l : List UInt8) : Prop := ∃ cur : List Value, Wh w g e cur.toArray ∧ cur.take l.length = l.map cell8
theorem Pb.lt {w : World} {g : Nat} {e : TypeId} {l : List UInt8} (h : Pb w g e l) : g < w.heap.size := by obtain ⟨cur, h1, _⟩ := h; exact h1.lt
theorem Pb.cell {w : World} {g : Nat} {e : TypeId} {l : List UInt8} (h : Pb w g e l) {j : Nat} (hj : j < l.length) : w.cell? ⟨g, j, none⟩ = some (.int .u8 ((l.getD j 0).toNat : Int)) := by
  obtain ⟨cur, h1, h2⟩ := h
  rw [h1.cell, List.getElem?_toArray]
  have e : cur[j]? = (cur.take l.length)[j]? := by rw [List.getElem?_take_of_lt hj]
  rw [e, h2, List.getElem?_map]
  simp [List.getD, hj, cell8]
theorem Pb.frozen {w : World} {g : Nat} {e : TypeId} {l : List UInt8} (h : Pb w g e l) (j : Nat) : w.frozen? ⟨g, j, none⟩ = false := by obtain ⟨cur, h1, _⟩ := h; exact h1.frozen j
theorem Pb.put {w : World} {g : Nat} {e : TypeId} {l : List UInt8} (h : Pb w g e l) (j : Nat) (x : UInt8) : Pb (w.setCell ⟨g, j, none⟩ (.int .u8 (x.toNat : Int))) g e (l.set j x) := by
  obtain ⟨cur, h1, h2⟩ := h
  refine ⟨cur.set j (.int .u8 (x.toNat : Int)), ?_, ?_⟩
  · have := h1.put j (.int .u8 (x.toNat : Int))
    rwa [List.setIfInBounds_toArray] at this
  · rw [List.length_set, List.take_set, h2, List.map_set]
    rfl
theorem Pb.grown {w w' : World} {g : Nat} {e : TypeId} {row : Option Nat} {l : List UInt8} (h : Pb w g e l) (hb : w.grownBy w' row) (hg : some g ≠ row) : Pb w' g e l := by obtain ⟨cur, h1, h2⟩ := h; exact ⟨cur, h1.grown hb hg, h2⟩
theorem Pb.below {w w' : World} {g B : Nat} {e : TypeId} {l : List UInt8} (h : Pb w g e l) (hb : Below B w w') (hg : g < B) : Pb w' g e l := by obtain ⟨cur, h1, h2⟩ := h; exact ⟨cur, h1.below hb hg, h2⟩
theorem Pb.since {w w' : World} {g : Nat} {e : TypeId} {l : List UInt8} (h : Pb w g e l) (hb : Below w.heap.size w w') : Pb w' g e l := h.below hb h.lt
theorem Pb.of_own {w : World} {base n : Nat} {e : TypeId} {v : Value} {l : List UInt8} (h : w.ownsRow base e 1 v n (l.map cell8)) (hn : 0 < n) : ∃ g cap, v = .slice (some ⟨g, 0, none⟩) n cap ∧ Pb w g e l ∧ base ≤ g ∧ n ≤ cap ∧ cap ≤ maxLen := by
  have hl : l.length = n := by have := h.1; simpa using this
  rcases h.2 with ⟨hv, hz⟩ | ⟨g', cap', cur, hv, hb, hw, hc, hm, hs, ht⟩
  · omega
  · exact ⟨g', cap', hv, ⟨cur.toList, hw, by rw [hl]; simpa using ht⟩, hb, hc, hm⟩
theorem Pb.of_wh {w : World} {g : Nat} {e : TypeId} {l : List UInt8} (h : Wh w g e (l.map cell8).toArray) : Pb w g e l := ⟨l.map cell8, h, by rw [List.take_of_length_le (by simp)]⟩
theorem Pb.sl {w : World} {g : Nat} {e : TypeId} {l : List UInt8} (h : Pb w g e l) : Sl w w.heap.size (some ⟨g, 0, none⟩) l := by
  intro _
  refine ⟨g, 0, rfl, h.lt, fun i v hv => ?_⟩
  rw [Nat.zero_add]
  have hi : i < l.length := by have := (List.getElem?_eq_some_iff.1 hv).1; simpa using this
  rw [h.cell hi, ← hv]
  simp [List.getD, hi, cell8]
/-- 'append([]T{}, ..)' begins with a row of none. -/
theorem own_none (w : World) (e : TypeId) : (w.alloc (.cells #[] e)).ownsRow w.heap.size e 1 (.slice (some ⟨w.heap.size, 0, none⟩) 0 0) 0 [] := World.ownsRow_made w #[] 0 (Nat.le_refl _) (Nat.zero_le _) rfl
theorem sv_alloc {w : World} {B : Nat} {A : Option Addr} {xs : List Value} (h : Sv w B A xs) (hB : B ≤ w.heap.size) (o : Obj) : Sv (w.alloc o) B A xs := h.keep (Nat.le_refl _) fun _ hp => ((Below.refl w.heap.size w).alloc (Nat.le_refl _) o).cell (Nat.lt_of_lt_of_le hp hB)
theorem below_clone {w w' : World} {base : Nat} {e : TypeId} (hg : (w.alloc (.cells #[] e)).grownBy w' (some w.heap.size)) (hb : base ≤ w.heap.size) : Below base w w' :=
  ((Below.refl base w).alloc hb _).grown hg (by simp; omega) (fun q hq => by have := Option.some.inj hq; omega)
end

section
open Go.RowKit

/-- A block of c cells, whose first read as bytes. -/
def Pq (w : World) (g c : Nat) (e : TypeId) (l : List UInt8) : Prop := ∃ cur : List Value, Wh w g e cur.toArray ∧ cur.length = c ∧ cur.take l.length = l.map cell8
theorem Pq.pb {w : World} {g c : Nat} {e : TypeId} {l : List UInt8} (h : Pq w g c e l) : Pb w g e l := by obtain ⟨cur, h1, _, h2⟩ := h; exact ⟨cur, h1, h2⟩
theorem Pq.put {w : World} {g c : Nat} {e : TypeId} {l : List UInt8} (h : Pq w g c e l) (j : Nat) (x : UInt8) : Pq (w.setCell ⟨g, j, none⟩ (.int .u8 (x.toNat : Int))) g c e (l.set j x) := by
  obtain ⟨cur, h1, h3, h2⟩ := h
  refine ⟨cur.set j (.int .u8 (x.toNat : Int)), ?_, ?_, ?_⟩
  · have := h1.put j (.int .u8 (x.toNat : Int))
    rwa [List.setIfInBounds_toArray] at this
  · rw [List.length_set, h3]
  · rw [List.length_set, List.take_set, h2, List.map_set]
    rfl
theorem Pq.since {w w' : World} {g c : Nat} {e : TypeId} {l : List UInt8} (h : Pq w g c e l) (hb : Below w.heap.size w w') : Pq w' g c e l := by obtain ⟨cur, h1, h2⟩ := h; exact ⟨cur, h1.below hb h1.lt, h2⟩
theorem Pq.of_own {w : World} {base n : Nat} {e : TypeId} {v : Value} {l : List UInt8} (h : w.ownsRow base e 1 v n (l.map cell8)) (hn : 0 < n) : ∃ g cap, v = .slice (some ⟨g, 0, none⟩) n cap ∧ Pq w g cap e l ∧ base ≤ g ∧ n ≤ cap ∧ cap ≤ maxLen := by
  have hl : l.length = n := by have := h.1; simpa using this
  rcases h.2 with ⟨hv, hz⟩ | ⟨g', cap', cur, hv, hb, hw, hc, hm, hs, ht⟩
  · omega
  · exact ⟨g', cap', hv, ⟨cur.toList, hw, by simpa using hs, by rw [hl]; simpa using ht⟩, hb, hc, hm⟩
theorem Pq.own {w : World} {g c n base : Nat} {e : TypeId} {l : List UInt8} (h : Pq w g c e l) (hb : base ≤ g) (hl : l.length = n) (hn : n ≤ c) (hm : c ≤ maxLen) : w.ownsRow base e 1 (.slice (some ⟨g, 0, none⟩) n c) n (l.map cell8) := by
  obtain ⟨cur, h1, h3, h2⟩ := h
  refine ⟨by rw [List.length_map, hl, Nat.mul_one], .inr ⟨g, c, cur.toArray, rfl, hb, h1, hn, hm, by simpa using h3, ?_⟩⟩
  rw [← hl]
  simpa using h2
end

section
open Go.RowKit
set_option linter.unusedVariables false

def bitsU (sp : Nat) : UInt8 := if sp = 2 then 31 else 15
def firstK (m : List UInt8) (x : UInt8) (sp : Nat) : UInt8 := x ^^^ (m.getD 0 0 &&& bitsU sp)
theorem b_and (x y : UInt8) : bits .and .u8 (x.toNat : Int) (y.toNat : Int) = ((x &&& y).toNat : Int) := by
  rw [u8_and_nat _ _ x.toNat_lt y.toNat_lt, UInt8.toNat_and]
/-- A part of a list turned by a mask's bytes from the second one on. -/
def jnP (m l : List UInt8) (a : Nat) : Nat → List UInt8
  | 0 => l
  | i + 1 => (jnP m l a i).set (a + i) ((jnP m l a i).getD (a + i) 0 ^^^ m.getD (i + 1) 0)
theorem jnP_len (m l : List UInt8) (a i : Nat) : (jnP m l a i).length = l.length := by
  induction i with
  | zero => rfl
  | succ i ih => rw [jnP, List.length_set, ih]

set_option maxRecDepth 100000 in
set_option maxHeartbeats 400000 in
theorem mfirst_any (m : List UInt8) (x : UInt8) (sp : Nat) (w : World) (hm : m.length = 16) :
    Calls Tryd.prog 36 #[.agg (aRow m), .int .u8 (x.toNat : Int), .int .u8 (sp : Int)] w fun e w' => e = .returned (.int .u8 ((firstK m x sp).toNat : Int)) ∧ Below w.heap.size w w' := by
  have HM := Deep.mk hm
  have HSZ : (aRow m).size = 16 := by rw [aRow_size, hm]
  have hb0 : Below w.heap.size w (w.alloc (.cells (aRow m) 67)) := (Below.refl _ _).alloc (Nat.le_refl _) _
  have h2 := Wh.new w 67 (aRow m)
  have hbi : ∀ w' : World, Calls Tryd.prog 72 #[.int .u8 (sp : Int)] w' fun e w2 => e = .returned (.int .u8 ((bitsU sp).toNat : Int)) ∧ w2 = w' := fun w' => by
    by_cases h : sp = 2
    · have := bits_any sp w' true (by rw [h]; rfl)
      rwa [show (if true = true then (31 : Int) else 15) = ((bitsU sp).toNat : Int) by rw [bitsU, if_pos h]; rfl] at this
    · have := bits_any sp w' false (by simp only [beq_eq_false_iff_ne, ne_eq]; omega)
      rwa [show (if false = true then (31 : Int) else 15) = ((bitsU sp).toNat : Int) by rw [bitsU, if_neg h]; rfl] at this
  have HBI := Lib.hid hbi
  have hfk : firstK m x sp = x ^^^ (m.getD 0 0 &&& bitsU sp) := rfl
  have hc0 : (w.alloc (.cells (aRow m) 67)).cell? ⟨w.heap.size, 0, none⟩ = some (.int .u8 ((m.getD 0 0).toNat : Int)) := (h2.cell 0).trans (aRow_at (by omega))
  generalize bitsU sp = y at *
  generalize m.getD 0 0 = u at *
  obtain ⟨v, hv⟩ : ∃ v, v = u &&& y := ⟨_, rfl⟩
  obtain ⟨z, hz⟩ : ∃ z, z = x ^^^ v := ⟨_, rfl⟩
  rw [← hv, ← hz] at hfk
  have HV := Deep.mk hv
  have HZ := Deep.mk hz
  have HFK := Deep.mk hfk
  have HC0 := Lib.hid hc0
  have HB0 := Lib.hid hb0
  clear hm hbi hfk hc0 hv hz h2 hb0
  go_enter Tryd.func36, Tryd.ntmps36
  go_upto_region 1 with (fail)
  generalize w.alloc (.cells (aRow m) 67) = W at *
  obtain ⟨b, hb⟩ : ∃ b, b = w.heap.size := ⟨_, rfl⟩
  rw [← hb] at HC0
  rw [← hb]
  have HBq := Deep.mk hb
  clear hb
  have hc : W.drew.cell? ⟨b, 0, none⟩ = some (.int .u8 (u.toNat : Int)) := HC0.out
  refine wp_region_held_drew (S := fun w' => w'.cell? ⟨b, 0, none⟩ = some (.int .u8 (u.toNat : Int))) (by kernel_rfl) hc (fun _ => ?_)
  have hbw : Below w.heap.size w W.drew := HB0.out.drew
  generalize W.drew = w0 at *
  refine wpAnyH_take (i := 0) (v := .int .u8 (x.toNat : Int)) (List.getElem?_toArray.trans rfl) (by kernel_rfl) (by kernel_rfl) (by kernel_rfl) (fun _ _ _ h => h) (.inl ⟨rfl, fun w' hS => rfl⟩) hc ?_
  refine act_normS (by simp only [Act.put, List.setIfInBounds_toArray, List.set_cons_zero, List.set_cons_succ]; rfl) ?_
  refine wpAnyH_take (i := 1) (v := .pointer (some ⟨b, 0, none⟩)) (List.getElem?_toArray.trans rfl) (by kernel_rfl) (by kernel_rfl) (by kernel_rfl) (fun _ _ _ h => h) (.inl ⟨rfl, fun w' hS => by simp [go_sem]⟩) hc ?_
  refine act_normS (by simp only [Act.put, List.setIfInBounds_toArray, List.set_cons_zero, List.set_cons_succ]; rfl) ?_
  refine wpAnyH_take (i := 2) (v := .int .u8 (u.toNat : Int)) (List.getElem?_toArray.trans rfl) (by kernel_rfl) (by kernel_rfl) (by kernel_rfl) (fun _ _ _ h => h) (.inl ⟨rfl, fun w' hS => by simp [go_sem, hS]⟩) hc ?_
  refine act_normS (by simp only [Act.put, List.setIfInBounds_toArray, List.set_cons_zero, List.set_cons_succ]; rfl) ?_
  refine wpAnyH_take (i := 3) (v := .int .u8 (sp : Int)) (List.getElem?_toArray.trans rfl) (by kernel_rfl) (by kernel_rfl) (by kernel_rfl) (fun _ _ _ h => h) (.inl ⟨rfl, fun w' hS => rfl⟩) hc ?_
  refine act_normS (by simp only [Act.put, List.setIfInBounds_toArray, List.set_cons_zero, List.set_cons_succ]; rfl) ?_
  refine wpAnyH_ready (rs := [4]) (by kernel_rfl) (by simp) (AllReadyH.cons (List.getElem?_toArray.trans rfl) (fun K' hK => ?_) AllReadyH.nil)
  refine wanted_goS rfl ?_
  go_simp
  refine (HBI.out w0).mono ?_
  rintro e w1 ⟨rfl, rfl⟩
  refine hK.out _ _ hc (fun _ => ?_)
  clear hK K'
  refine wpAnyH_take (i := 5) (v := .int .u8 (v.toNat : Int)) (List.getElem?_toArray.trans rfl) (by kernel_rfl) (by kernel_rfl) (by kernel_rfl) (fun _ _ _ h => h) (.inl ⟨rfl, fun w' hS => by rw [HV.out, ← b_and]; simp [go_sem]⟩) hc ?_
  refine act_normS (by simp only [Act.put, List.setIfInBounds_toArray, List.set_cons_zero, List.set_cons_succ]; rfl) ?_
  refine wpAnyH_take (i := 6) (v := .int .u8 (z.toNat : Int)) (List.getElem?_toArray.trans rfl) (by kernel_rfl) (by kernel_rfl) (by kernel_rfl) (fun _ _ _ h => h) (.inl ⟨rfl, fun w' hS => by rw [HZ.out, ← b_xor]; simp [go_sem]⟩) hc ?_
  refine act_normS (by simp only [Act.put, List.setIfInBounds_toArray, List.set_cons_zero, List.set_cons_succ]; rfl) ?_
  refine wpAnyH_take (i := 7) (v := .int .u8 (z.toNat : Int)) (List.getElem?_toArray.trans rfl) (by kernel_rfl) (by kernel_rfl) (by kernel_rfl) (fun _ _ _ h => h) (.inl ⟨rfl, fun w' hS => rfl⟩) hc ?_
  refine act_normS (by simp only [Act.put, List.setIfInBounds_toArray, List.set_cons_zero, List.set_cons_succ]; rfl) ?_
  refine wpAnyH_done (by kernel_rfl) ?_ _
  go_wp2_with fail
  go_ret
  exact ⟨by rw [HFK.out]; rfl, hbw⟩

set_option maxRecDepth 100000 in
set_option maxHeartbeats 800000 in
theorem mturn_any (m L : List UInt8) (g a n c cq : Nat) (w : World) (hm : m.length = 16) (hn : n ≤ 8) (ha : a + n ≤ L.length) (hL : L.length ≤ 100000000) (hg : Pq w g cq 5 L) :
    Calls Tryd.prog 37 #[.agg (aRow m), .slice (some ⟨g, a, none⟩) n c] w fun e w' => e = .returned (.tuple #[]) ∧ Pq w' g cq 5 (jnP m L a n) ∧ w.grownBy w' (some g) := by
  have HM := Deep.mk hm
  have HSZ : (aRow m).size = 16 := by rw [aRow_size, hm]
  have hg0 : w.grownBy (w.alloc (.cells (aRow m) 67)) (some g) := grown_alloc (World.grownBy.refl _ _) _
  have h2 := Wh.new w 67 (aRow m)
  have hp := hg.since ((Below.refl w.heap.size w).alloc (Nat.le_refl _) (.cells (aRow m) 67))
  have hgb := hg.pb.lt
  obtain ⟨b, hb⟩ : ∃ b, b = w.heap.size := ⟨_, rfl⟩
  rw [← hb] at h2 hgb
  have H2 := Lib.hid h2
  have HP : Hid (Pq (w.alloc (.cells (aRow m) 67)) g cq 5 (jnP m L a 0)) := Lib.hid hp
  have HG := Lib.hid hg0
  have HA := Lib.hid ha
  have HLL := Lib.hid hL
  clear hm hg hg0 h2 hp hL
  go_enter Tryd.func37, Tryd.ntmps37
  go_upto_region 1 with (fail)
  rw [← hb]
  have hne : ¬ g = b := by omega
  have hbW : b < (w.alloc (.cells (aRow m) 67)).heap.size := H2.out.lt
  generalize w.alloc (.cells (aRow m) 67) = W at *
  clear hb ha
  go_wp2_with fail
  go_loopw [4, 7] (fun _ i wr => ∃ k : Nat, k ≤ n ∧ i = .int .i64 (k : Int) ∧ Hid (Pq wr g cq 5 (jnP m L a k)) ∧ Hid (W.grownBy wr (some g))) (fun _ i _ => n - (intOf i).toNat)
  case atStart => exact ⟨0, by omega, rfl, HP, Lib.hid (World.grownBy.refl _ _)⟩
  case round =>
    obtain ⟨k, hk, rfl, HW, HGW⟩ := hrel
    clear HP
    by_cases hlt : k < n
    · have hd : decide ((k : Int) < (n : Int)) = true := decide_eq_true (by omega)
      have hak : a + k < L.length := by have := HA.out; omega
      have hakb : a + k ≤ 100000000 := by have := HLL.out; omega
      have hcu := HW.out.pb.cell (j := a + k) (by rw [jnP_len]; exact hak)
      have hfu := HW.out.pb.frozen (a + k)
      have hcq := (World.cell?_of_block (HGW.out.block b hbW (by intro e; exact hne (Option.some.inj e).symm))).trans ((H2.out.cell (k + 1)).trans (aRow_at (by have := HM.out; omega)))
      have hnx : (jnP m L a k).set (a + k) ((jnP m L a k).getD (a + k) 0 ^^^ m.getD (k + 1) 0) = jnP m L a (k + 1) := rfl
      generalize jnP m L a k = u at *
      generalize u.getD (a + k) 0 = x at *
      generalize m.getD (k + 1) 0 = y at *
      obtain ⟨z, hz⟩ : ∃ z, z = x ^^^ y := ⟨_, rfl⟩
      rw [← hz] at hnx
      have HZZ := Deep.mk hz
      have HNX := Deep.mk hnx
      have hput := (HW.out.since (Below.refl _ _).drew).put (a + k) z
      have hgs := grown_trans (grown_below (row := some g) ((Below.refl _ wr).drew)) (grown_set wr.drew g (a + k) (.int .u8 (z.toNat : Int)))
      have HPU : Hid (Pq (wr.drew.setCell ⟨g, a + k, none⟩ (.int .u8 (z.toNat : Int))) g cq 5 (u.set (a + k) z)) := Lib.hid hput
      have HGS := Lib.hid hgs
      have HCU : Hid (wr.drew.cell? ⟨g, a + k, none⟩ = some (.int .u8 (x.toNat : Int))) := Lib.hid hcu
      have HFU : Hid (wr.drew.frozen? ⟨g, a + k, none⟩ = false) := Lib.hid hfu
      have HCQ : Hid (wr.drew.cell? ⟨b, k + 1, none⟩ = some (.int .u8 (y.toNat : Int))) := Lib.hid hcq
      have hki : (k : Int) < 16 := by omega
      have hkn : (k : Int) < (n : Int) := by omega
      have hk0 : (0 : Int) ≤ (k : Int) := by omega
      have hwp : IntKind.i64.wrap (1 + (k : Int)) = ((k + 1 : Nat) : Int) := by rw [IntWalk.i64_in _ (by omega)]; omega
      have hk1 : ¬ ((16 : Int) ≤ (k : Int) + 1) := by omega
      have hk2 : (0 : Int) ≤ (k : Int) + 1 := by omega
      have HWP := Lib.hid hwp
      clear hcu hfu hcq hnx hz hput hgs hwp
      go_wp2_with fail
      have hcd := HCU.out
      have hfd := HFU.out
      have hcqd := HCQ.out
      have hwp := HWP.out
      refine wp_region_held_drew (S := fun _ => True) (by kernel_rfl) trivial (fun _ => ?_)
      refine wpAnyH_take (i := 0) (v := .slice (some ⟨g, a, none⟩) n c) (List.getElem?_toArray.trans rfl) (by kernel_rfl) (by kernel_rfl) (by kernel_rfl) (fun _ _ _ h => h) (.inl ⟨rfl, fun w' hS => rfl⟩) trivial ?_
      refine act_normS (by simp only [Act.put, List.setIfInBounds_toArray, List.set_cons_zero, List.set_cons_succ]; rfl) ?_
      refine wpAnyH_take (i := 1) (v := .int .i64 (k : Int)) (List.getElem?_toArray.trans rfl) (by kernel_rfl) (by kernel_rfl) (by kernel_rfl) (fun _ _ _ h => h) (.inl ⟨rfl, fun w' hS => rfl⟩) trivial ?_
      refine act_normS (by simp only [Act.put, List.setIfInBounds_toArray, List.set_cons_zero, List.set_cons_succ]; rfl) ?_
      refine wpAnyH_take (i := 2) (v := .pointer (some ⟨g, a + k, none⟩)) (List.getElem?_toArray.trans rfl) (by kernel_rfl) (by kernel_rfl) (by kernel_rfl) (fun _ _ _ h => h) (.inl ⟨rfl, fun w' hS => by simp [go_sem, hkn, hk0]⟩) trivial ?_
      refine act_normS (by simp only [Act.put, List.setIfInBounds_toArray, List.set_cons_zero, List.set_cons_succ]; rfl) ?_
      refine wpAnyH_take (i := 4) (v := .int .i64 (k : Int)) (List.getElem?_toArray.trans rfl) (by kernel_rfl) (by kernel_rfl) (by kernel_rfl) (fun _ _ _ h => h) (.inl ⟨rfl, fun w' hS => rfl⟩) trivial ?_
      refine act_normS (by simp only [Act.put, List.setIfInBounds_toArray, List.set_cons_zero, List.set_cons_succ]; rfl) ?_
      refine wpAnyH_take (i := 5) (v := .int .i64 ((k + 1 : Nat) : Int)) (List.getElem?_toArray.trans rfl) (by kernel_rfl) (by kernel_rfl) (by kernel_rfl) (fun _ _ _ h => h) (.inl ⟨rfl, fun w' hS => by simp [go_sem, hwp]⟩) trivial ?_
      refine act_normS (by simp only [Act.put, List.setIfInBounds_toArray, List.set_cons_zero, List.set_cons_succ]; rfl) ?_
      refine wpAnyH_take (i := 6) (v := .pointer (some ⟨b, k + 1, none⟩)) (List.getElem?_toArray.trans rfl) (by kernel_rfl) (by kernel_rfl) (by kernel_rfl) (fun _ _ _ h => h) (.inl ⟨rfl, fun w' hS => by simp [go_sem, hk1, hk2]⟩) trivial ?_
      refine act_normS (by simp only [Act.put, List.setIfInBounds_toArray, List.set_cons_zero, List.set_cons_succ]; rfl) ?_
      refine wpAnyH_ready (rs := [3, 7]) (by kernel_rfl) (by simp) (AllReadyH.cons (List.getElem?_toArray.trans rfl) (fun K' hK => ?_) (AllReadyH.cons (List.getElem?_toArray.trans rfl) (fun K' hK => ?_) AllReadyH.nil))
      · refine wanted_goS rfl ?_
        go_simp
        refine hK.out _ _ trivial (fun _ => ?_)
        clear hK K'
        refine wpAnyH_ready (rs := [7]) (by kernel_rfl) (by simp) (AllReadyH.cons (List.getElem?_toArray.trans rfl) (fun K' hK => ?_) AllReadyH.nil)
        refine wanted_goS rfl ?_
        go_simp
        refine hK.out _ _ trivial (fun _ => ?_)
        clear hK K'
        refine wpAnyH_take (i := 8) (v := .int .u8 (z.toNat : Int)) (List.getElem?_toArray.trans rfl) (by kernel_rfl) (by kernel_rfl) (by kernel_rfl) (fun _ _ _ h => h) (.inl ⟨rfl, fun w' hS => by rw [HZZ.out, ← b_xor]; simp [go_sem]⟩) trivial ?_
        refine act_normS (by simp only [Act.put, List.setIfInBounds_toArray, List.set_cons_zero, List.set_cons_succ]; rfl) ?_
        refine wpAnyH_take (i := 9) (v := .pointer (some ⟨g, a + k, none⟩)) (List.getElem?_toArray.trans rfl) (by kernel_rfl) (by kernel_rfl) (by kernel_rfl) (fun _ _ _ h => h) (.inl ⟨rfl, fun w' hS => by simp [go_sem, hkn, hk0]⟩) trivial ?_
        refine act_normS (by simp only [Act.put, List.setIfInBounds_toArray, List.set_cons_zero, List.set_cons_succ]; rfl) ?_
        refine wpAnyH_ready (rs := [10]) (by kernel_rfl) (by simp) (AllReadyH.cons (List.getElem?_toArray.trans rfl) (fun K' hK => ?_) AllReadyH.nil)
        refine wanted_goS rfl ?_
        go_simp
        refine hK.out _ _ trivial (fun _ => ?_)
        clear hK K'
        refine wpAnyH_done (by kernel_rfl) ?_ _
        clear hcd hfd hcqd hki
        change Exit.inBlock 1 _ _ _ (wr.drew.setCell ⟨g, a + k, none⟩ (.int .u8 (z.toNat : Int)))
        generalize wr.drew.setCell ⟨g, a + k, none⟩ (.int .u8 (z.toNat : Int)) = w5 at *
        go_wp2
        refine ⟨⟨k + 1, by omega, by go_num, ?_, Lib.hid (grown_trans HGW.out HGS.out)⟩, by simp [intOf]; omega⟩
        rw [← HNX.out]
        exact HPU
      · refine wanted_goS rfl ?_
        go_simp
        refine hK.out _ _ trivial (fun _ => ?_)
        clear hK K'
        refine wpAnyH_ready (rs := [3]) (by kernel_rfl) (by simp) (AllReadyH.cons (List.getElem?_toArray.trans rfl) (fun K' hK => ?_) AllReadyH.nil)
        refine wanted_goS rfl ?_
        go_simp
        refine hK.out _ _ trivial (fun _ => ?_)
        clear hK K'
        refine wpAnyH_take (i := 8) (v := .int .u8 (z.toNat : Int)) (List.getElem?_toArray.trans rfl) (by kernel_rfl) (by kernel_rfl) (by kernel_rfl) (fun _ _ _ h => h) (.inl ⟨rfl, fun w' hS => by rw [HZZ.out, ← b_xor]; simp [go_sem]⟩) trivial ?_
        refine act_normS (by simp only [Act.put, List.setIfInBounds_toArray, List.set_cons_zero, List.set_cons_succ]; rfl) ?_
        refine wpAnyH_take (i := 9) (v := .pointer (some ⟨g, a + k, none⟩)) (List.getElem?_toArray.trans rfl) (by kernel_rfl) (by kernel_rfl) (by kernel_rfl) (fun _ _ _ h => h) (.inl ⟨rfl, fun w' hS => by simp [go_sem, hkn, hk0]⟩) trivial ?_
        refine act_normS (by simp only [Act.put, List.setIfInBounds_toArray, List.set_cons_zero, List.set_cons_succ]; rfl) ?_
        refine wpAnyH_ready (rs := [10]) (by kernel_rfl) (by simp) (AllReadyH.cons (List.getElem?_toArray.trans rfl) (fun K' hK => ?_) AllReadyH.nil)
        refine wanted_goS rfl ?_
        go_simp
        refine hK.out _ _ trivial (fun _ => ?_)
        clear hK K'
        refine wpAnyH_done (by kernel_rfl) ?_ _
        clear hcd hfd hcqd hki
        change Exit.inBlock 1 _ _ _ (wr.drew.setCell ⟨g, a + k, none⟩ (.int .u8 (z.toNat : Int)))
        generalize wr.drew.setCell ⟨g, a + k, none⟩ (.int .u8 (z.toNat : Int)) = w5 at *
        go_wp2
        refine ⟨⟨k + 1, by omega, by go_num, ?_, Lib.hid (grown_trans HGW.out HGS.out)⟩, by simp [intOf]; omega⟩
        rw [← HNX.out]
        exact HPU
    · have hkd : decide ((k : Int) < (n : Int)) = false := by rw [decide_eq_false_iff_not]; omega
      obtain rfl : n = k := by omega
      have HGF := Lib.hid (grown_trans HG.out HGW.out)
      clear HGW HG hlt hk
      go_wp2
      go_end0
      exact ⟨rfl, HW.out, HGF.out⟩
end

section
open Go.RowKit
set_option linter.unusedVariables false

theorem wi_half (x : W32) (k : Nat) : wi (sr x k) / 2 = wi (sr x (k + 1)) := by
  unfold wi sr
  rw [BitVec.toNat_ushiftRight, BitVec.toNat_ushiftRight, Nat.shiftRight_succ]
  omega

theorem wi_half' (x : W32) (k : Nat) : (wi (sr x k)).tdiv 2 % 4294967296 = wi (sr x (k + 1)) := by
  rw [Int.tdiv_eq_ediv_of_nonneg (wi_nn _), wi_half]
  exact Int.emod_eq_of_lt (wi_nn _) (wi_lt _)

theorem wi_double (x : W32) : (2 : Int) * wi x % (4294967296 : Int) = wi (x <<< 1) := by
  unfold wi
  rw [BitVec.toNat_shiftLeft, Nat.shiftLeft_eq]
  omega

/-- Shifted to the left. -/
def sl (x : W32) (k : Nat) : W32 := x <<< k
theorem sl_succ (x : W32) (k : Nat) : sl x k <<< 1 = sl x (k + 1) := by unfold sl; rw [BitVec.shiftLeft_add]

theorem rr_add (x : W32) (n : Nat) (h1 : 1 ≤ n) (h2 : n ≤ 31) : sr x n + sl x (32 - n) = rr x n := by
  unfold sr sl rr
  rw [BitVec.rotateRight_def, Nat.mod_eq_of_lt (by omega : n < 32)]
  refine BitVec.add_eq_or_of_and_eq_zero _ _ ?_
  apply BitVec.eq_of_getLsbD_eq
  intro i hi
  rw [BitVec.getLsbD_and, BitVec.getLsbD_ushiftRight, BitVec.getLsbD_shiftLeft, BitVec.getLsbD_zero]
  by_cases h : i < 32 - n
  · simp [h]
  · rw [BitVec.getLsbD_of_ge x (n + i) (by omega)]
    simp

set_option maxHeartbeats 400000 in
theorem shift_any (x : W32) (n : Nat) (w : World) (hn : n ≤ 31) :
    Calls Tryd.prog 95 #[.int .u32 (wi x), .int .i64 (n : Int)] w fun e w' => e = .returned (.int .u32 (wi (sr x n))) ∧ w = w' := by
  go_enter Tryd.func95, Tryd.ntmps95
  go_wp2
  go_loop [0, 5] (fun v i => ∃ k : Nat, k ≤ n ∧ i = .int .i64 (k : Int) ∧ v = .int .u32 (wi (sr x k))) (fun _ i => n - (intOf i).toNat)
  case atStart => exact ⟨0, by omega, rfl, by simp [sr]⟩
  case round =>
    obtain ⟨k, hk, rfl, rfl⟩ := hrel
    by_cases hlt : k < n
    · go_wp2
      go_round
      case rel => exact ⟨k + 1, by omega, by go_num, by rw [wi_half']⟩
      case measure => simp [intOf]; omega
    · have hd : decide (k < n) = false := decide_eq_false hlt
      have hkn : Deep (k = n) := ⟨by omega⟩
      clear hk hlt
      go_wp2
      go_ret
      exact ⟨cw_of (by rw [hkn.out]), rfl⟩

set_option maxHeartbeats 400000 in
theorem turn_any (x : W32) (n : Nat) (w : World) (h1 : 1 ≤ n) (hn : n ≤ 31) :
    Calls Tryd.prog 94 #[.int .u32 (wi x), .int .i64 (n : Int)] w fun e w' => e = .returned (.int .u32 (wi (rr x n))) ∧ w = w' := by
  go_enter Tryd.func94, Tryd.ntmps94
  go_wp2
  go_loop [5, 6] (fun v i => ∃ k : Nat, n ≤ k ∧ k ≤ 32 ∧ i = .int .i64 (k : Int) ∧ v = .int .u32 (wi (sl x (k - n)))) (fun _ i => 32 - (intOf i).toNat)
  case atStart => exact ⟨n, by omega, by omega, rfl, by simp [sl]⟩
  case round =>
    obtain ⟨k, hk1, hk2, rfl, rfl⟩ := hrel
    by_cases hlt : k < 32
    · have hh : (2 : Int) * wi (sl x (k - n)) % (4294967296 : Int) = wi (sl x (k + 1 - n)) := by rw [wi_double, sl_succ, show k - n + 1 = k + 1 - n by omega]
      go_wp2
      go_round
      case rel => exact ⟨k + 1, by omega, by omega, by go_num, by rw [hh]⟩
      case measure => simp [intOf]; omega
    · have hd : decide ((k : Int) < 32) = false := by rw [decide_eq_false_iff_not]; omega
      have hkn : Deep (k = 32) := ⟨by omega⟩
      clear hk2 hlt
      go_wp2_with (go_at_call 95; refine (shift_any x n _ hn).mono ?_; rintro e w1 ⟨rfl, rfl⟩)
      go_ret
      refine ⟨cw_of ?_, rfl⟩
      first
        | (rw [wi_add', hkn.out, rr_add x n h1 hn])
        | (rw [wi_add, hkn.out, rr_add x n h1 hn])

/-- The same at integers. -/
theorem shift_i (x : W32) (i : Int) (w : World) (h1 : 0 ≤ i) (h2 : i ≤ 31) :
    Calls Tryd.prog 95 #[.int .u32 (wi x), .int .i64 i] w fun e w' => e = .returned (.int .u32 (wi (sr x i.toNat))) ∧ w = w' := by
  obtain ⟨p, rfl⟩ := Int.eq_ofNat_of_zero_le h1
  exact shift_any x p w (by omega)
theorem turn_i (x : W32) (i : Int) (w : World) (h1 : 1 ≤ i) (h2 : i ≤ 31) :
    Calls Tryd.prog 94 #[.int .u32 (wi x), .int .i64 i] w fun e w' => e = .returned (.int .u32 (wi (rr x i.toNat))) ∧ w = w' := by
  obtain ⟨p, rfl⟩ := Int.eq_ofNat_of_zero_le (by omega : 0 ≤ i)
  exact turn_any x p w (by omega) (by omega)
end
end Go.Proofs.YtblclinfcdalaaaDoor
