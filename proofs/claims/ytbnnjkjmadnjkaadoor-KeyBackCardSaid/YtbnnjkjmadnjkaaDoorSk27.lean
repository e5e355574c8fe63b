/-
  key.maskOf, (key.mask).first.
  Words for a row of bytes of the call's own that is appended to, and for blocks that stand beside it. No program is named here.
  A block whose first cells read as bytes, with the row's size, so that it can be one's own again. No program is named here.
-/
import Derived.Test.YtbnnjkjmadnjkaaDoorSk4
import Derived.Test.YtbnnjkjmadnjkaaDoorAsSeal
import Derived.Test.YtbnnjkjmadnjkaaDoorAsNew
import Derived.Test.YtbnnjkjmadnjkaaDoorSk9
import Derived.Test.YtbnnjkjmadnjkaaDoorSk16
import Derived.Test.YtbnnjkjmadnjkaaDoorHPut2
import Derived.Test.YtbnnjkjmadnjkaaDoorSk3
import Derived.Test.YtbnnjkjmadnjkaaDoorSk2
import Derived.OwnWalk
import Derived.Deep.OwnRows
namespace Go.Proofs.YtbnnjkjmadnjkaaDoor
section
open Go.RowKit
set_option linter.unusedVariables false

theorem zero_mask (w : World) : (zeroValue 55).run Tryd.prog w = .ok (.agg (aRow (List.replicate 16 0))) w := by kernel_rfl
theorem info_mask : (Tryd.prog.info? 55).map (·.size) = some 16 := by kernel_rfl
theorem info_maskR {l : List UInt8} (h : l.length = 16) : (Tryd.prog.info? 55).map (·.size) = some (aRow l).size := by rw [aRow_size, h]; exact info_mask
/-- What is masked with: the sixteen bytes four behind the number's place. -/
def smpK (b : List UInt8) (a : Nat) : List UInt8 := (b.drop (a + 4)).take 16
theorem smp_len {b : List UInt8} {a : Nat} (h : a + 20 ≤ b.length) : (smpK b a).length = 16 := by rw [smpK, List.length_take, List.length_drop]; omega
def mkK (hp b : List UInt8) (a : Nat) : List UInt8 := seL (ksL hp) (smpK b a)
theorem mk_len (hp b : List UInt8) (a : Nat) : (mkK hp b a).length = 16 := seL_len _ _
theorem wpList_sliceK {P : Program} {ops : Array Oper} {rest : List Oper} {o : Oper} {a : Act} {w : World} {Q : Exit → Act → World → Prop} (hg : o.guard = none) (ty : TypeId) (x : Operand) (lo hi mx : Option Operand) (ho : o.op = .slice ty x lo hi mx) (v : Value)
    (h : (Instr.sliceAt ty (a.eval x) (lo.map a.eval) (hi.map a.eval) (mx.map a.eval)).run P w = .ok v w)
    (hk : wpList P ops Q rest (a.put o.dst v) w) : wpList P ops Q (o :: rest) a w :=
  wpList_plain hg fun _ hK => by
    unfold Oper.wp execOp
    simp only [ho, Sem.run_bind, h, Result.andThen_ok, Sem.run_pure]
    exact hK _ _ hk

set_option maxRecDepth 100000 in
set_option maxHeartbeats 1000000 in
theorem maskOf_any (hp b : List UInt8) (A : Option Addr) (n c a : Nat) (w : World) (hh : hp.length = 16) (hl : b.length = n) (ha : a + 20 ≤ n) (hnc : n ≤ c) (hn : n ≤ 100000000) (hs : Sl w w.heap.size A b) :
    Calls Tryd.prog 18 #[.agg (aRow hp), .slice A n c, .int .i64 (a : Int)] w fun e w' => e = .returned (.agg (aRow (mkK hp b a))) ∧ Below w.heap.size w w' := by
  have HHP := Deep.mk hh
  have HSZ : (aRow hp).size = 16 := by rw [aRow_size, hh]
  obtain ⟨g, off, rfl, hglt, hr⟩ := hs.there (by intro e; rw [e] at hl; simp at hl; omega)
  have hsl := smp_len (b := b) (a := a) (by omega)
  have hsr : w.rangeAt g (off + (a + 4)) ((smpK b a).map cell8) := fun j v hv => by
    rw [smpK, List.map_take, List.map_drop, List.getElem?_take] at hv
    split at hv
    · rw [List.getElem?_drop] at hv
      have := hr (a + 4 + j) v hv
      rwa [show off + (a + 4 + j) = off + (a + 4) + j by omega] at this
    · cases hv
  have hmk : mkK hp b a = seL (ksL hp) (smpK b a) := rfl
  generalize smpK b a = S at *
  have HMK := Deep.mk hmk
  have HSL := Deep.mk hsl
  obtain ⟨hbe, h2, h3⟩ := made2 w (aRow hp) (aRow (List.replicate 16 0)) 23 55
  have HSR := Lib.hid (rangeAt_below hsr hbe hglt)
  have hcut : ∀ w' : World, (Instr.sliceAt 28 (.slice (some ⟨g, off, none⟩) n c) (some (.int .i64 ((a : Int) + 4))) (some (.int .i64 ((a : Int) + 20))) none).run Tryd.prog w' = .ok (.slice (some ⟨g, off + (a + 4), none⟩) 16 (c - (a + 4))) w' := fun w' => by
    rw [show (a : Int) + 4 = ((a + 4 : Nat) : Int) by omega, show (a : Int) + 20 = ((a + 20 : Nat) : Int) by omega, run_cut2 (some ⟨g, off, none⟩) n c (a + 4) (a + 20) (by omega) (by omega) w', cutA, if_neg (by omega), show a + 20 - (a + 4) = 16 by omega]
    rfl
  have HCUT := Deep.mk hcut
  have ham : a ≤ 100000000 := by omega
  have HAC := Lib.hid ha
  clear hh hl hs hr hsr hmk hsl hcut ha hnc hn
  go_enter Tryd.func18, Tryd.ntmps18
  go_upto_region 1 with (refine wpList_allocZ rfl 55 rfl (aRow (List.replicate 16 0)) (zero_mask _) ?_)
  rw [show (w.alloc (.cells (aRow hp) 23)).heap.size = w.heap.size + 1 by simp]
  generalize (w.alloc (.cells (aRow hp) 23)).alloc (.cells (aRow (List.replicate 16 0)) 55) = W at *
  obtain ⟨q, hq⟩ : ∃ b, b = w.heap.size := ⟨_, rfl⟩
  rw [← hq] at h2 h3 ⊢
  obtain ⟨r, hr⟩ : ∃ r, r = q + 1 := ⟨_, rfl⟩
  rw [← hr] at h3 ⊢
  have hwq : w.heap.size ≤ q := by omega
  have hqr : q < r := by omega
  have hgq : g < q := by omega
  have H2 := Lib.hid h2
  have H3 := Lib.hid h3
  have HBE := Lib.hid hbe
  clear hq hr h2 h3 hbe
  go_upto_region 2 with ((with_reducible refine wpList_sliceK rfl 28 (.tmp 8) (some (.tmp 10)) (some (.tmp 12)) none rfl (.slice (some ⟨g, off + (a + 4), none⟩) 16 (c - (a + 4))) ?_ ?_); exact HCUT.out _)
  have h2' : Wh W.drew q 23 (aRow hp) := H2.out.below (Below.refl _ _).drew H2.out.lt
  have h3' : Wh W.drew r 55 (aRow (List.replicate 16 0)) := H3.out.below (Below.refl _ _).drew H3.out.lt
  have hB0 : Below w.heap.size w W.drew := HBE.out.drew
  have hsr0 : W.drew.rangeAt g (off + (a + 4)) (S.map cell8) := rangeAt_below HSR.out ((Below.refl W.heap.size _).drew) (Nat.lt_of_lt_of_le hglt HBE.out.size)
  clear H2 H3 HBE HSR HCUT
  refine wp_region_held_drew (S := fun w' => SinceX r W.drew w') (by kernel_rfl) (SinceX.self _ _) (fun _ => ?_)
  generalize W.drew = w0 at *
  have hr0 : w0.rangeAt q 0 (hp.map cell8) := by have := row_rangeS h2'; rwa [aRow_list] at this
  have hq0 : q < w0.heap.size := h2'.lt
  have hg0 : g < w0.heap.size := Nat.lt_of_lt_of_le hglt hB0.size
  have hqne : q ≠ r := by omega
  have hgne : g ≠ r := by omega
  clear h2'
  refine wpAnyH_take (i := 0) (v := .agg (aRow hp)) (List.getElem?_toArray.trans rfl) (by kernel_rfl) (by kernel_rfl) (by kernel_rfl) (fun _ _ _ h => h) (yieldsIf_load_mid (by rfl) 23 (.tmp 3) rfl q 0 rfl (hp.map cell8) _ (fun w' hS => SinceX.range hS hr0 hq0 hqne) Tryd.underlying23 rfl (by rw [List.length_map, HHP.out]; exact info_k16)) (SinceX.self _ _) ?_
  refine act_normS (by simp only [Act.put, List.setIfInBounds_toArray, List.set_cons_zero, List.set_cons_succ]; rfl) ?_
  refine wpAnyH_take (i := 2) (v := .slice (some ⟨g, off + (a + 4), none⟩) 16 (c - (a + 4))) (List.getElem?_toArray.trans rfl) (by kernel_rfl) (by kernel_rfl) (by kernel_rfl) (fun _ _ _ h => h) (.inl ⟨rfl, fun w' hS => rfl⟩) (SinceX.self _ _) ?_
  refine act_normS (by simp only [Act.put, List.setIfInBounds_toArray, List.set_cons_zero, List.set_cons_succ]; rfl) ?_
  refine wpAnyH_take (i := 3) (v := .pointer (some ⟨g, off + (a + 4), none⟩)) (List.getElem?_toArray.trans rfl) (by kernel_rfl) (by kernel_rfl) (by kernel_rfl) (fun _ _ _ h => h) (yields_arr (by rfl) 23 5 16 (.tmp 16) rfl (some ⟨g, off + (a + 4), none⟩) 16 (c - (a + 4)) rfl Tryd.underlying23 (Nat.le_refl _)) (SinceX.self _ _) ?_
  refine act_normS (by simp only [Act.put, List.setIfInBounds_toArray, List.set_cons_zero, List.set_cons_succ]; rfl) ?_
  refine wpAnyH_take (i := 4) (v := .agg (aRow S)) (List.getElem?_toArray.trans rfl) (by kernel_rfl) (by kernel_rfl) (by kernel_rfl) (fun _ _ _ h => h) (yieldsIf_load_mid (by rfl) 23 (.tmp 17) rfl g (off + (a + 4)) rfl (S.map cell8) _ (fun w' hS => SinceX.range hS hsr0 hg0 hgne) Tryd.underlying23 rfl (by rw [List.length_map, HSL.out]; exact info_k16)) (SinceX.self _ _) ?_
  refine act_normS (by simp only [Act.put, List.setIfInBounds_toArray, List.set_cons_zero, List.set_cons_succ]; rfl) ?_
  refine wpAnyH_ready (rs := [1]) (by kernel_rfl) (by simp) (AllReadyH.cons (List.getElem?_toArray.trans rfl) (fun K' hK => ?_) AllReadyH.nil)
  refine wanted_goS rfl ?_
  go_simp
  refine (new_any hp w0 HHP.out).mono ?_
  rintro e w1 ⟨k, rfl, hk1, hw1, hb1⟩
  have h31 := h3'.below hb1 h3'.lt
  have hB1 := hB0.trans (hb1.mono hB0.size)
  have hS1 : SinceX r w0 w1 := SinceX.of hb1
  refine hK.out _ _ hS1 (fun _ => ?_)
  clear hK K'
  refine wpAnyH_ready (rs := [5]) (by kernel_rfl) (by simp) (AllReadyH.cons (List.getElem?_toArray.trans rfl) (fun K' hK => ?_) AllReadyH.nil)
  refine wanted_goS rfl ?_
  go_simp
  refine (seal_any k (ksL hp) S w1 (ksL_b HHP.out) hw1 HSL.out).mono ?_
  rintro e w2 ⟨rfl, hb2⟩
  rw [← HMK.out]
  have hml : (mkK hp b a).length = 16 := mk_len _ _ _
  generalize hM : mkK hp b a = M at *
  have HM := Deep.mk hM
  clear hM
  have h32 := h31.below hb2 h31.lt
  have hB2 := hB1.trans (hb2.mono hB1.size)
  have hS2 := SinceX.trans hS1 (SinceX.of hb2)
  refine hK.out _ _ hS2 (fun _ => ?_)
  clear hK K'
  obtain ⟨hx, hv⟩ := Wh.over (l := List.replicate 16 0) h32 (by simp) hml
  refine wpAnyH_ready (rs := [6]) (by kernel_rfl) (by simp) (AllReadyH.cons (List.getElem?_toArray.trans rfl) (fun K' hK => ?_) AllReadyH.nil)
  refine wanted_goS rfl ?_
  refine wp_store_mid 55 (.tmp 6) (.tmp 19) rfl r 0 (aRow M) rfl rfl (by rw [aRow_size, hml]; exact Wh.there h32 (by simp)) (info_maskR hml) (aRow_one _) ?_
  rw [aRow_list]
  refine hK.out _ _ (SinceX.put hS2 hv) (fun _ => ?_)
  clear hK K'
  refine wpAnyH_done (by kernel_rfl) ?_ _
  go_wp2_with fail
  refine bodyPost_ret (v := .agg (aRow M)) (results_cell_row Tryd.results18 _ _ r _ _ (0, 0) _ rfl hx Tryd.underlying55 rfl (info_maskR hml)) rfl ?_
  exact ⟨by rw [HM.out], below_grownA hB2 hv (by omega) hB2.size⟩
end

section
open Go.RowKit

/-- Own bytes d at v, all below base as it was in w. -/
def OwB (base : Nat) (e : TypeId) (w wr : World) (v : Value) (d : List UInt8) : Prop := wr.ownsRow base e 1 v d.length (d.map cell8) ∧ Below base w wr ∧ base ≤ wr.heap.size
theorem OwB.below {base : Nat} {e : TypeId} {w wr w' : World} {v : Value} {d : List UInt8} (h : OwB base e w wr v d) (hb : Below wr.heap.size wr w') : OwB base e w w' v d :=
  ⟨own_below h.1 hb, h.2.1.trans (hb.mono h.2.2), Nat.le_trans h.2.2 hb.size⟩
theorem OwB.more {base : Nat} {e : TypeId} {w wr w2 : World} {v v2 : Value} {d : List UInt8} (h : OwB base e w wr v d) (x : UInt8) (o : Obj) (h1 : w2.ownsRow base e 1 v2 (d.length + 1) (d.map cell8 ++ [cell8 x])) (h2 : (wr.alloc o).grownBy w2 v.ownBlock) : OwB base e w w2 v2 (d ++ [x]) := by
  refine ⟨?_, ?_, ?_⟩
  · rw [List.length_append, List.map_append]
    exact h1
  · exact (h.2.1.alloc h.2.2 o).grown h2 (by have := h.2.2; simp; omega) (fun q hq => (h.1.lt q hq).1)
  · have k1 := h2.size
    have k2 := h.2.2
    have k3 : (wr.alloc o).heap.size = wr.heap.size + 1 := by simp
    omega
theorem OwB.more' {base : Nat} {e : TypeId} {w wr w2 : World} {v v2 : Value} {d : List UInt8} (h : OwB base e w wr v d) (x : List UInt8) (h1 : w2.ownsRow base e 1 v2 (d.length + x.length) (d.map cell8 ++ x.map cell8)) (h2 : wr.grownBy w2 v.ownBlock) : OwB base e w w2 v2 (d ++ x) :=
  ⟨by rw [List.length_append, List.map_append]; exact h1, h.2.1.grown h2 h.2.2 (fun q hq => (h.1.lt q hq).1), Nat.le_trans h.2.2 h2.size⟩
/-- A block that stands, and is not the own row's. -/
def Kp (wr : World) (v : Value) (b : Nat) (t : TypeId) (cs : Array Value) : Prop := Wh wr b t cs ∧ v.ownBlock ≠ some b
theorem Kp.below {wr w' : World} {v : Value} {b : Nat} {t : TypeId} {cs : Array Value} (h : Kp wr v b t cs) (hb : Below wr.heap.size wr w') : Kp w' v b t cs := ⟨h.1.below hb h.1.lt, h.2⟩
theorem Kp.more' {wr w2 : World} {v v2 : Value} {b : Nat} {t : TypeId} {cs : Array Value} (h : Kp wr v b t cs) (h2 : wr.grownBy w2 v.ownBlock) (h3 : v2.ownBlock = v.ownBlock ∨ v2.ownBlock = some wr.heap.size) : Kp w2 v2 b t cs :=
  ⟨h.1.grown h2 (fun e => h.2 e.symm), by
    rcases h3 with e | e
    · rw [e]; exact h.2
    · rw [e]
      intro e2
      have := Option.some.inj e2
      have := h.1.lt
      omega⟩
theorem Kp.more {wr w2 : World} {v v2 : Value} {b : Nat} {t : TypeId} {cs : Array Value} (h : Kp wr v b t cs) (o : Obj) (h2 : (wr.alloc o).grownBy w2 v.ownBlock) (h3 : v2.ownBlock = v.ownBlock ∨ v2.ownBlock = some (wr.alloc o).heap.size) : Kp w2 v2 b t cs :=
  Kp.more' (wr := wr.alloc o) ⟨h.1.alloc o, h.2⟩ h2 h3
theorem OwB.new {base : Nat} {e : TypeId} {w wr : World} {v : Value} {d : List UInt8} (h : OwB base e w wr v d) {b : Nat} (hb : wr.heap.size ≤ b) : v.ownBlock ≠ some b := fun e => by
  have := (h.1.lt b e).2
  omega

/-- A block whose first cells read as bytes. -/
def Pb (w : World) (g : Nat) (e : TypeId) (l : List UInt8) : Prop := ∃ cur : List Value, Wh w g e cur.toArray ∧ cur.take l.length = l.map cell8
theorem Pb.lt {w : World} {g : Nat} {e : TypeId} {l : List UInt8} (h : Pb w g e l) : g < w.heap.size := by obtain ⟨cur, h1, _⟩ := h; exact h1.lt
theorem Pb.cell {w : World} {g : Nat} {e : TypeId} {l : List UInt8} (h : Pb w g e l) {j : Nat} (hj : j < l.length) : w.cell? ⟨g, j, none⟩ = some (.int .u8 ((l.getD j 0).toNat : Int)) := by
  obtain ⟨cur, h1, h2⟩ := h
  rw [h1.cell, List.getElem?_toArray]
  have e : cur[j]? = (cur.take l.length)[j]? := by rw [List.getElem?_take_of_lt hj]
  rw [e, h2, List.getElem?_map]
  simp [List.getD, hj, cell8]
theorem Pb.frozen {w : World} {g : Nat} {e : TypeId} {l : List UInt8} (h : Pb w g e l) (j : Nat) : w.frozen? ⟨g, j, none⟩ = false := by obtain ⟨cur, h1, _⟩ := h; exact h1.frozen j
theorem Pb.put {w : World} {g : Nat} {e : TypeId} {l : List UInt8} (h : Pb w g e l) (j : Nat) (x : UInt8) : Pb (w.setCell ⟨g, j, none⟩ (.int .u8 (x.toNat : Int))) g e (l.set j x) := by
  obtain ⟨cur, h1, h2⟩ := h
  refine ⟨cur.set j (.int .u8 (x.toNat : Int)), ?_, ?_⟩
  · have := h1.put j (.int .u8 (x.toNat : Int))
    rwa [List.setIfInBounds_toArray] at this
  · rw [List.length_set, List.take_set, h2, List.map_set]
    rfl
theorem Pb.grown {w w' : World} {g : Nat} {e : TypeId} {row : Option Nat} {l : List UInt8} (h : Pb w g e l) (hb : w.grownBy w' row) (hg : some g ≠ row) : Pb w' g e l := by obtain ⟨cur, h1, h2⟩ := h; exact ⟨cur, h1.grown hb hg, h2⟩
theorem Pb.below {w w' : World} {g B : Nat} {e : TypeId} {l : List UInt8} (h : Pb w g e l) (hb : Below B w w') (hg : g < B) : Pb w' g e l := by obtain ⟨cur, h1, h2⟩ := h; exact ⟨cur, h1.below hb hg, h2⟩
theorem Pb.since {w w' : World} {g : Nat} {e : TypeId} {l : List UInt8} (h : Pb w g e l) (hb : Below w.heap.size w w') : Pb w' g e l := h.below hb h.lt
theorem Pb.of_own {w : World} {base n : Nat} {e : TypeId} {v : Value} {l : List UInt8} (h : w.ownsRow base e 1 v n (l.map cell8)) (hn : 0 < n) : ∃ g cap, v = .slice (some ⟨g, 0, none⟩) n cap ∧ Pb w g e l ∧ base ≤ g ∧ n ≤ cap ∧ cap ≤ maxLen := by
  have hl : l.length = n := by have := h.1; simpa using this
  rcases h.2 with ⟨hv, hz⟩ | ⟨g', cap', cur, hv, hb, hw, hc, hm, hs, ht⟩
  · omega
  · exact ⟨g', cap', hv, ⟨cur.toList, hw, by rw [hl]; simpa using ht⟩, hb, hc, hm⟩
theorem Pb.of_wh {w : World} {g : Nat} {e : TypeId} {l : List UInt8} (h : Wh w g e (l.map cell8).toArray) : Pb w g e l := ⟨l.map cell8, h, by rw [List.take_of_length_le (by simp)]⟩
theorem Pb.sl {w : World} {g : Nat} {e : TypeId} {l : List UInt8} (h : Pb w g e l) : Sl w w.heap.size (some ⟨g, 0, none⟩) l := by
  intro _
  refine ⟨g, 0, rfl, h.lt, fun i v hv => ?_⟩
  rw [Nat.zero_add]
  have hi : i < l.length := by have := (List.getElem?_eq_some_iff.1 hv).1; simpa using this
  rw [h.cell hi, ← hv]
  simp [List.getD, hi, cell8]
/-- 'append([]T{}, ..)' begins with a row of none. -/
theorem own_none (w : World) (e : TypeId) : (w.alloc (.cells #[] e)).ownsRow w.heap.size e 1 (.slice (some ⟨w.heap.size, 0, none⟩) 0 0) 0 [] := World.ownsRow_made w #[] 0 (Nat.le_refl _) (Nat.zero_le _) rfl
theorem sv_alloc {w : World} {B : Nat} {A : Option Addr} {xs : List Value} (h : Sv w B A xs) (hB : B ≤ w.heap.size) (o : Obj) : Sv (w.alloc o) B A xs := h.keep (Nat.le_refl _) fun _ hp => ((Below.refl w.heap.size w).alloc (Nat.le_refl _) o).cell (Nat.lt_of_lt_of_le hp hB)
theorem below_clone {w w' : World} {base : Nat} {e : TypeId} (hg : (w.alloc (.cells #[] e)).grownBy w' (some w.heap.size)) (hb : base ≤ w.heap.size) : Below base w w' :=
  ((Below.refl base w).alloc hb _).grown hg (by simp; omega) (fun q hq => by have := Option.some.inj hq; omega)
end

section
open Go.RowKit

/-- A block of c cells, whose first read as bytes. -/
def Pq (w : World) (g c : Nat) (e : TypeId) (l : List UInt8) : Prop := ∃ cur : List Value, Wh w g e cur.toArray ∧ cur.length = c ∧ cur.take l.length = l.map cell8
theorem Pq.pb {w : World} {g c : Nat} {e : TypeId} {l : List UInt8} (h : Pq w g c e l) : Pb w g e l := by obtain ⟨cur, h1, _, h2⟩ := h; exact ⟨cur, h1, h2⟩
theorem Pq.put {w : World} {g c : Nat} {e : TypeId} {l : List UInt8} (h : Pq w g c e l) (j : Nat) (x : UInt8) : Pq (w.setCell ⟨g, j, none⟩ (.int .u8 (x.toNat : Int))) g c e (l.set j x) := by
  obtain ⟨cur, h1, h3, h2⟩ := h
  refine ⟨cur.set j (.int .u8 (x.toNat : Int)), ?_, ?_, ?_⟩
  · have := h1.put j (.int .u8 (x.toNat : Int))
    rwa [List.setIfInBounds_toArray] at this
  · rw [List.length_set, h3]
  · rw [List.length_set, List.take_set, h2, List.map_set]
    rfl
theorem Pq.since {w w' : World} {g c : Nat} {e : TypeId} {l : List UInt8} (h : Pq w g c e l) (hb : Below w.heap.size w w') : Pq w' g c e l := by obtain ⟨cur, h1, h2⟩ := h; exact ⟨cur, h1.below hb h1.lt, h2⟩
theorem Pq.of_own {w : World} {base n : Nat} {e : TypeId} {v : Value} {l : List UInt8} (h : w.ownsRow base e 1 v n (l.map cell8)) (hn : 0 < n) : ∃ g cap, v = .slice (some ⟨g, 0, none⟩) n cap ∧ Pq w g cap e l ∧ base ≤ g ∧ n ≤ cap ∧ cap ≤ maxLen := by
  have hl : l.length = n := by have := h.1; simpa using this
  rcases h.2 with ⟨hv, hz⟩ | ⟨g', cap', cur, hv, hb, hw, hc, hm, hs, ht⟩
  · omega
  · exact ⟨g', cap', hv, ⟨cur.toList, hw, by simpa using hs, by rw [hl]; simpa using ht⟩, hb, hc, hm⟩
theorem Pq.own {w : World} {g c n base : Nat} {e : TypeId} {l : List UInt8} (h : Pq w g c e l) (hb : base ≤ g) (hl : l.length = n) (hn : n ≤ c) (hm : c ≤ maxLen) : w.ownsRow base e 1 (.slice (some ⟨g, 0, none⟩) n c) n (l.map cell8) := by
  obtain ⟨cur, h1, h3, h2⟩ := h
  refine ⟨by rw [List.length_map, hl, Nat.mul_one], .inr ⟨g, c, cur.toArray, rfl, hb, h1, hn, hm, by simpa using h3, ?_⟩⟩
  rw [← hl]
  simpa using h2
end
end Go.Proofs.YtbnnjkjmadnjkaaDoor
