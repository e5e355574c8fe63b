/-
  The walk through head.Bare, of a packet's own first byte and number.
-/
import Derived.Test.YtbnnjkjmadnjkaaDoorHBare
import Derived.Test.YtbnnjkjmadnjkaaDoorSk39
import Derived.Deep.DeepCutAuto
namespace Go.Proofs.YtbnnjkjmadnjkaaDoor
open Go.RowKit
set_option linter.unusedVariables false

/-- What Bare answers: the head. -/
def BareGave (w : World) (sp k v : Nat) (dst src tok : List UInt8) (ph : Bool) (e : Ending) (w' : World) : Prop :=
  ∃ B1 d1 B2 d2 B3 d3, e = .returned (.tuple #[.agg (headC sp B1 dst.length d1 B2 src.length d2 B3 tok.length d3 ph (v : Int) (k : Int)), .int .i64 0]) ∧
    Sl w' w'.heap.size B1 dst ∧ Sl w' w'.heap.size B2 src ∧ Sl w' w'.heap.size B3 tok ∧ Below w.heap.size w w'

/-- The same, where the slices are new. -/
def BareGaveY (w : World) (sp k v : Nat) (dst src tok : List UInt8) (ph : Bool) (e : Ending) (w' : World) : Prop :=
  ∃ B1 d1 B2 d2 B3 d3, e = .returned (.tuple #[.agg (headC sp B1 dst.length d1 B2 src.length d2 B3 tok.length d3 ph (v : Int) (k : Int)), .int .i64 0]) ∧
    Sy w' w.heap.size B1 (dst.map cell8) ∧ Sy w' w.heap.size B2 (src.map cell8) ∧ Sy w' w.heap.size B3 (tok.map cell8) ∧ Below w.heap.size w w'

/-- The slice at A reads as the values xs, lies at block lo or behind it, and outside block g. -/
def Sz (w : World) (lo g : Nat) (A : Option Addr) (xs : List Value) : Prop :=
  xs ≠ [] → ∃ b off, A = some ⟨b, off, none⟩ ∧ lo ≤ b ∧ b < w.heap.size ∧ b ≠ g ∧ ∀ i v, xs[i]? = some v → w.cell? ⟨b, off + i, none⟩ = some v

theorem Sz.grown {w w' : World} {lo g q : Nat} {A : Option Addr} {xs : List Value} (h : Sz w lo g A xs) (hb : w.grownBy w' (some q)) (hq : q = g ∨ q < lo) : Sz w' lo g A xs := by
  intro hn
  obtain ⟨b, off, rfl, hlo, hlt, hne, hc⟩ := h hn
  exact ⟨b, off, rfl, hlo, Nat.lt_of_lt_of_le hlt hb.size, hne, fun i v hv => (World.cell?_of_block (hb.block b hlt (fun e => by have := Option.some.inj e; omega))).trans (hc i v hv)⟩

theorem Sz.below {w w' : World} {lo g : Nat} {A : Option Addr} {xs : List Value} (h : Sz w lo g A xs) (hb : Below w.heap.size w w') : Sz w' lo g A xs := by
  intro hn
  obtain ⟨b, off, rfl, hlo, hlt, hne, hc⟩ := h hn
  exact ⟨b, off, rfl, hlo, Nat.lt_of_lt_of_le hlt hb.size, hne, fun i v hv => (hb.cell (p := ⟨b, off + i, none⟩) hlt).trans (hc i v hv)⟩

theorem Sz.of_sy {w : World} {lo g : Nat} {A : Option Addr} {xs : List Value} (h : Sy w lo A xs) (hg : w.heap.size ≤ g) : Sz w lo g A xs := by
  intro hn
  obtain ⟨b, off, rfl, hlo, hlt, hc⟩ := h hn
  exact ⟨b, off, rfl, hlo, hlt, by omega, hc⟩

theorem Sz.of_own {w : World} {base lo g : Nat} {e : TypeId} {A : Option Addr} {n c : Nat} {xs : List Value} (h : w.ownsRow base e 1 (.slice A n c) n xs) (hl : lo ≤ base) (hg : g < base) : Sz w lo g A xs := by
  intro hn
  obtain ⟨b, off, rfl, hlo, hlt, hc⟩ := Sy.of_own h (Nat.le_refl _) hn
  exact ⟨b, off, rfl, by omega, hlt, by omega, hc⟩

theorem Sz.sv {w : World} {lo g : Nat} {A : Option Addr} {xs : List Value} (h : Sz w lo g A xs) : Sv w w.heap.size A xs := by
  intro hn
  obtain ⟨b, off, rfl, _, hlt, _, hc⟩ := h hn
  exact ⟨b, off, rfl, hlt, hc⟩

theorem Sz.sy {w : World} {lo g : Nat} {A : Option Addr} {xs : List Value} (h : Sz w lo g A xs) : Sy w lo A xs := by
  intro hn
  obtain ⟨b, off, rfl, h1, hlt, _, hc⟩ := h hn
  exact ⟨b, off, rfl, h1, hlt, hc⟩

/-- Three clones under way, and the new head's block, where it is there already. -/
structure CS (w1 w : World) (g : Option Nat) (l : List (Option Addr × List UInt8)) : Prop where
  bel : Below w1.heap.size w1 w
  blk : ∀ k, g = some k → w1.heap.size ≤ k ∧ Wh w k 30 (headC 0 none 0 0 none 0 0 none 0 0 false 0 0)
  sls : ∀ p ∈ l, Sy w w1.heap.size p.1 (p.2.map cell8) ∧ ∀ k, g = some k → Sz w w1.heap.size k p.1 (p.2.map cell8)

theorem CS.start (w1 : World) : CS w1 w1.drew none [] := ⟨(Below.refl _ _).drew, (fun k hk => by cases hk), (fun p hp => by cases hp)⟩

theorem CS.start2 (w1 : World) : CS w1 (w1.alloc (.cells (headC 0 none 0 0 none 0 0 none 0 0 false 0 0) 30)).drew (some w1.heap.size) [] :=
  ⟨((Below.refl _ _).alloc (Nat.le_refl _) _).drew, (fun k hk => by obtain rfl := Option.some.inj hk; exact ⟨Nat.le_refl _, Wh.below (Wh.new w1 _ _) (Below.refl (w1.alloc (.cells (headC 0 none 0 0 none 0 0 none 0 0 false 0 0) 30)).heap.size (w1.alloc (.cells (headC 0 none 0 0 none 0 0 none 0 0 false 0 0) 30))).drew (by simp)⟩), (fun p hp => by cases hp)⟩

theorem CS.alloc {w1 w : World} {l : List (Option Addr × List UInt8)} (h : CS w1 w none l) : CS w1 (w.alloc (.cells (headC 0 none 0 0 none 0 0 none 0 0 false 0 0) 30)) (some w.heap.size) l :=
  ⟨h.bel.alloc h.bel.size _, fun k hk => by obtain rfl := Option.some.inj hk; exact ⟨h.bel.size, Wh.new w _ _⟩, fun p hp => by
    have hs := (h.sls p hp).1
    refine ⟨hs.below ((Below.refl _ _).alloc (Nat.le_refl _) _), fun k hk => ?_⟩
    obtain rfl := Option.some.inj hk
    exact (Sz.of_sy hs (Nat.le_refl _)).below ((Below.refl _ _).alloc (Nat.le_refl _) _)⟩

theorem CS.call {w1 w w' : World} {g : Option Nat} {l : List (Option Addr × List UInt8)} {A : Option Addr} {d : List UInt8} {n c : Nat} (h : CS w1 w g l) (ho : w'.ownsRow w.heap.size 5 1 (.slice A n c) n (d.map cell8)) (hb : Below w.heap.size w w') : CS w1 w' g (l ++ [(A, d)]) :=
  ⟨h.bel.trans (hb.mono h.bel.size), fun k hk => ⟨(h.blk k hk).1, (h.blk k hk).2.below hb (h.blk k hk).2.lt⟩, fun p hp => by
    rcases List.mem_append.1 hp with hp | hp
    · exact ⟨(h.sls p hp).1.below hb, fun k hk => ((h.sls p hp).2 k hk).below hb⟩
    · obtain rfl := List.mem_singleton.1 hp
      exact ⟨Sy.of_own ho h.bel.size, fun k hk => Sz.of_own ho h.bel.size (h.blk k hk).2.lt⟩⟩

theorem CS.zero {w1 w : World} {g : Nat} {l : List (Option Addr × List UInt8)} (h : CS w1 w (some g) l) :
    w.cell? ⟨g, 0, none⟩ = some (.int .u8 0) ∧ w.cell? ⟨g, 1, none⟩ = some (.slice none 0 0) ∧ w.cell? ⟨g, 2, none⟩ = some (.slice none 0 0) ∧ w.cell? ⟨g, 3, none⟩ = some (.slice none 0 0) ∧ w.cell? ⟨g, 4, none⟩ = some (.bool false) ∧ w.cell? ⟨g, 5, none⟩ = some (.int .u64 0) ∧ w.cell? ⟨g, 6, none⟩ = some (.int .i64 0) ∧ w.frozen? ⟨g, 0, none⟩ = false ∧ w.frozen? ⟨g, 1, none⟩ = false ∧ w.frozen? ⟨g, 2, none⟩ = false ∧ w.frozen? ⟨g, 3, none⟩ = false ∧ w.frozen? ⟨g, 4, none⟩ = false ∧ w.frozen? ⟨g, 5, none⟩ = false ∧ w.frozen? ⟨g, 6, none⟩ = false := by
  have hw := (h.blk g rfl).2
  exact ⟨hw.cell 0, hw.cell 1, hw.cell 2, hw.cell 3, hw.cell 4, hw.cell 5, hw.cell 6, hw.frozen 0, hw.frozen 1, hw.frozen 2, hw.frozen 3, hw.frozen 4, hw.frozen 5, hw.frozen 6⟩

theorem cell_far7 {w : World} {b g i : Nat} {x : Option Value} (h : w.cell? ⟨b, i, none⟩ = x) (hne : b ≠ g) (u0 u1 u2 u3 u4 u5 u6 : Value) : (((((((w.setCell ⟨g, 0, none⟩ u0).setCell ⟨g, 1, none⟩ u1).setCell ⟨g, 2, none⟩ u2).setCell ⟨g, 3, none⟩ u3).setCell ⟨g, 4, none⟩ u4).setCell ⟨g, 5, none⟩ u5).setCell ⟨g, 6, none⟩ u6).cell? ⟨b, i, none⟩ = x := by
  have hs : ∀ (w' : World) (j : Nat) (u : Value), (w'.setCell ⟨g, j, none⟩ u).cell? ⟨b, i, none⟩ = w'.cell? ⟨b, i, none⟩ := fun w' j u => World.cell?_setCell_other w' ⟨g, j, none⟩ ⟨b, i, none⟩ u (fun e => hne (Addr.mk.inj e).1.symm)
  rw [hs, hs, hs, hs, hs, hs, hs]
  exact h

/-- The new head: its block, and where its names and its token lie. -/
structure BS (w1 w : World) (g sp k : Nat) (dst src tok : List UInt8) (ph : Bool) (v : Nat) (B1 : Option Addr) (d1 : Nat) (B2 : Option Addr) (d2 : Nat) (B3 : Option Addr) (d3 : Nat) : Prop where
  bel : Below w1.heap.size w1 w
  ge : w1.heap.size ≤ g
  wh : Wh w g 30 (headC sp B1 dst.length d1 B2 src.length d2 B3 tok.length d3 ph (v : Int) (k : Int))
  s1 : Sz w w1.heap.size g B1 (dst.map cell8)
  s2 : Sz w w1.heap.size g B2 (src.map cell8)
  s3 : Sz w w1.heap.size g B3 (tok.map cell8)

theorem CS.fin {w1 w : World} {g sp k : Nat} {dst src tok : List UInt8} {ph : Bool} {B1 B2 B3 : Option Addr} (d1 d2 d3 n1 n2 n3 : Nat) (e1 : n1 = dst.length) (e2 : n2 = src.length) (e3 : n3 = tok.length) (h : CS w1 w (some g) [(B1, dst), (B2, src), (B3, tok)]) :
    BS w1 (((((((w.setCell ⟨g, 0, none⟩ (.int .u8 (sp : Int))).setCell ⟨g, 1, none⟩ (.slice B1 n1 d1)).setCell ⟨g, 2, none⟩ (.slice B2 n2 d2)).setCell ⟨g, 3, none⟩ (.slice B3 n3 d3)).setCell ⟨g, 4, none⟩ (.bool ph)).setCell ⟨g, 5, none⟩ (.int .u64 0)).setCell ⟨g, 6, none⟩ (.int .i64 (k : Int))) g sp k dst src tok ph 0 B1 d1 B2 d2 B3 d3 := by
  subst e1 e2 e3
  obtain ⟨hge, hw⟩ := h.blk g rfl
  have hset : ∀ (w' : World) (i : Nat) (u : Value) (A : Option Addr) (xs : List Value), Sz w' w1.heap.size g A xs → Sz (w'.setCell ⟨g, i, none⟩ u) w1.heap.size g A xs := fun w' i u A xs hx => hx.grown (grown_set w' g i u) (.inl rfl)
  have hs := fun (A : Option Addr) (xs : List Value) (hx : Sz w w1.heap.size g A xs) => hset _ 6 (.int .i64 (k : Int)) _ _ (hset _ 5 (.int .u64 0) _ _ (hset _ 4 (.bool ph) _ _ (hset _ 3 (.slice B3 tok.length d3) _ _ (hset _ 2 (.slice B2 src.length d2) _ _ (hset _ 1 (.slice B1 dst.length d1) _ _ (hset _ 0 (.int .u8 (sp : Int)) A xs hx))))))
  exact ⟨((((((h.bel.setCell (p := ⟨g, 0, none⟩) hge _).setCell (p := ⟨g, 1, none⟩) hge _).setCell (p := ⟨g, 2, none⟩) hge _).setCell (p := ⟨g, 3, none⟩) hge _).setCell (p := ⟨g, 4, none⟩) hge _).setCell (p := ⟨g, 5, none⟩) hge _).setCell (p := ⟨g, 6, none⟩) hge _, hge,
    ((((((hw.put 0 _).put 1 _).put 2 _).put 3 _).put 4 _).put 5 _).put 6 _, hs _ _ ((h.sls (B1, dst) (by simp)).2 g rfl), hs _ _ ((h.sls (B2, src) (by simp)).2 g rfl), hs _ _ ((h.sls (B3, tok) (by simp)).2 g rfl)⟩

theorem CS.fin2 {w1 w : World} {sp k : Nat} {dst src tok : List UInt8} {ph : Bool} {B1 B2 B3 : Option Addr} (d1 d2 d3 n1 n2 n3 : Nat) (e1 : n1 = dst.length) (e2 : n2 = src.length) (e3 : n3 = tok.length) (h : CS w1 w none [(B1, dst), (B2, src), (B3, tok)]) :
    BS w1 (w.alloc (.cells #[.int .u8 (sp : Int), .slice B1 n1 d1, .slice B2 n2 d2, .slice B3 n3 d3, .bool ph, .int .u64 0, .int .i64 (k : Int)] 30)) w.heap.size sp k dst src tok ph 0 B1 d1 B2 d2 B3 d3 := by
  subst e1 e2 e3
  have hs : ∀ p ∈ [(B1, dst), (B2, src), (B3, tok)], Sz (w.alloc (.cells #[.int .u8 (sp : Int), .slice B1 dst.length d1, .slice B2 src.length d2, .slice B3 tok.length d3, .bool ph, .int .u64 0, .int .i64 (k : Int)] 30)) w1.heap.size w.heap.size p.1 (p.2.map cell8) := fun p hp =>
    (Sz.of_sy (h.sls p hp).1 (Nat.le_refl _)).below ((Below.refl _ _).alloc (Nat.le_refl _) _)
  exact ⟨h.bel.alloc h.bel.size _, h.bel.size, Wh.new w _ _, hs (B1, dst) (by simp), hs (B2, src) (by simp), hs (B3, tok) (by simp)⟩

theorem info_head : (Tryd.prog.info? 30).map (·.size) = some 7 := by kernel_rfl

set_option maxRecDepth 100000 in
theorem load_head {w : World} {g : Nat} {cs : Array Value} (h : Wh w g 30 cs) (hs : cs.size = 7) : (loadVar 30 ⟨g, 0, none⟩).run Tryd.prog w = .ok (.agg cs) w :=
  run_loadVar_row w g _ _ cs (0, 0) _ h Tryd.underlying30 rfl (by rw [hs]; exact info_head)

set_option maxRecDepth 10000 in
set_option maxHeartbeats 1600000 in
theorem bare_gen (sp k m : Nat) (dst src tok ns : List UInt8) (ph : Bool) (A1 : Option Addr) (c1 : Nat) (A2 : Option Addr) (c2 : Nat) (A3 : Option Addr) (c3 a t c4 : Nat) (bb off : Nat) (f y : Int) (b : Bool) (AN : Option Addr) (cn : Nat) (w : World) (hb : ((sp : Int) == 2) = b)
    (hy : w.cell? ⟨bb, off, none⟩ = some (.int .u8 y)) (ht : 0 < t) (htc : t ≤ 9223372036854775807) (hx : (bits .andNot .u8 (bits .xor .u8 f y) (if b then 31 else 15) == 0) = true)
    (hsz : bits .and .u8 f 3 = (k : Int) - 1) (hk : 1 ≤ k) (hk4 : k ≤ 4) (hres : (bits .and .u8 f (if b then 24 else 12) != 0) = false) (hph : (bits .and .u8 f 4 != 0) = ph) (hns : ns.length = k) (hkm : k ≤ m) (hmc : m ≤ cn) (hcm : cn ≤ maxLen)
    (h1 : Sl w w.heap.size A1 dst) (h2 : Sl w w.heap.size A2 src) (h3 : Sl w w.heap.size A3 tok) (hN : Sl w w.heap.size AN ns) (hd : dst.length ≤ 20) (hs : src.length ≤ 20) (htk : tok.length ≤ 3000) :
    Calls Tryd.prog 24 #[.agg (partC sp A1 dst.length c1 A2 src.length c2 A3 tok.length c3 a (some ⟨bb, off, none⟩) t c4), .int .u8 f, .slice AN m cn] w (BareGaveY w sp k (val 0 ns) dst src tok ph) := by
  have hcn : k ≤ cn := Nat.le_trans hkm hmc
  have hlt := World.block_lt_of_cell? w _ hy
  have HIF := Lib.hid (fun (w' : World) (h : w'.cell? ⟨bb, off, none⟩ = some (.int .u8 y)) => isFirst_yes sp A1 dst.length c1 A2 src.length c2 A3 tok.length c3 a t c4 bb off f y b w' hb h ht htc hx)
  have HRS := Lib.hid (fun w => reserved_any sp w b hb)
  have hW0 : Wh (w.alloc (.cells (partC sp A1 dst.length c1 A2 src.length c2 A3 tok.length c3 a (some ⟨bb, off, none⟩) t c4) 37)) w.heap.size 37 (partC sp A1 dst.length c1 A2 src.length c2 A3 tok.length c3 a (some ⟨bb, off, none⟩) t c4) := Wh.new _ _ _
  have hz0 : (w.alloc (.cells (partC sp A1 dst.length c1 A2 src.length c2 A3 tok.length c3 a (some ⟨bb, off, none⟩) t c4) 37)).heap.size = w.heap.size + 1 := by simp
  have hR0 := Wh.new (w.alloc (.cells (partC sp A1 dst.length c1 A2 src.length c2 A3 tok.length c3 a (some ⟨bb, off, none⟩) t c4) 37)) 30 (headC 0 none 0 0 none 0 0 none 0 0 false 0 0)
  have hb0 : Below w.heap.size w ((w.alloc (.cells (partC sp A1 dst.length c1 A2 src.length c2 A3 tok.length c3 a (some ⟨bb, off, none⟩) t c4) 37)).alloc (.cells (headC 0 none 0 0 none 0 0 none 0 0 false 0 0) 30)) := ((Below.refl _ _).alloc (Nat.le_refl _) _).alloc (by simp) _
  have hW1 := hW0.alloc (.cells (headC 0 none 0 0 none 0 0 none 0 0 false 0 0) 30)
  have hz1 : ((w.alloc (.cells (partC sp A1 dst.length c1 A2 src.length c2 A3 tok.length c3 a (some ⟨bb, off, none⟩) t c4) 37)).alloc (.cells (headC 0 none 0 0 none 0 0 none 0 0 false 0 0) 30)).heap.size = w.heap.size + 2 := by simp
  rw [hz0] at hR0
  have HB0 := Lib.hid hb0
  have HW1 := Lib.hid hW1
  have HR1 := Lib.hid hR0
  have HY := Lib.hid hy
  have H1 := Lib.hid h1
  have H2 := Lib.hid h2
  have H3 := Lib.hid h3
  have HN := Lib.hid hN
  have HNS := Lib.hid hns
  have HZ1 := Lib.hid hz1
  clear hW0 hR0 hb0 hW1 hy h1 h2 h3 hN hns hz0 hz1 hx
  have hcb : bits .and .u8 f 3 + 1 = (k : Int) := by omega
  cases b
  all_goals
    simp only [if_false, if_true, Bool.false_eq_true] at hres
    unfold partC
    go_enter Tryd.func24, Tryd.ntmps24
    go_wp2_with fail
    change Calls _ _ _ ((w.alloc (.cells (partC sp A1 dst.length c1 A2 src.length c2 A3 tok.length c3 a (some ⟨bb, off, none⟩) t c4) 37)).alloc (.cells (headC 0 none 0 0 none 0 0 none 0 0 false 0 0) 30)) _
    change Hid (Below w.heap.size w ((w.alloc (.cells (partC sp A1 dst.length c1 A2 src.length c2 A3 tok.length c3 a (some ⟨bb, off, none⟩) t c4) 37)).alloc (.cells (headC 0 none 0 0 none 0 0 none 0 0 false 0 0) 30))) at HB0
    generalize ((w.alloc (.cells (partC sp A1 dst.length c1 A2 src.length c2 A3 tok.length c3 a (some ⟨bb, off, none⟩) t c4) 37)).alloc (.cells (headC 0 none 0 0 none 0 0 none 0 0 false 0 0) 30)) = w0 at *
    refine (HIF.out w0 ((HB0.out.cell (p := ⟨bb, off, none⟩) hlt).trans HY.out)).mono ?_
    rintro e w1 ⟨rfl, hb1⟩
    have hs1 := hb1.size
    have HB1 := Lib.hid (HB0.out.trans (hb1.mono HB0.out.size))
    have hW2 := HW1.out.below hb1 HW1.out.lt
    have HR2 := Lib.hid (HR1.out.below hb1 HR1.out.lt)
    have e0 := hW2.cell 0
    have e1 := hW2.cell 1
    have e2 := hW2.cell 2
    have e3 := hW2.cell 3
    simp only [partC, List.getElem?_toArray, List.getElem?_cons_zero, List.getElem?_cons_succ] at e0 e1 e2 e3
    have HW2 := Lib.hid hW2
    have HZ2 : Hid (w.heap.size + 2 ≤ w1.heap.size) := by show _ ≤ _; have := HZ1.out; omega
    clear hW2 hb1 HW1 HR1 HB0 HIF
    go_upto_region 4 with (go_at_call 50; refine (HRS.out _).mono ?_; rintro e w' ⟨rfl, hw'⟩; replace hw' := hw'.symm; subst hw')
    have hbx : w.heap.size < w1.heap.size := by have := HZ2.out; omega
    have HC1 := Lib.hid (fun (w' : World) (h : Below w1.heap.size w1 w') => clone_any A1 dst.length c1 dst w' w1.heap.size rfl (((H1.out.below HB1.out).keep HB1.out.size (fun _ _ => rfl)).below h) h.size (by omega))
    have HC2 := Lib.hid (fun (w' : World) (h : Below w1.heap.size w1 w') => clone_any A2 src.length c2 src w' w1.heap.size rfl (((H2.out.below HB1.out).keep HB1.out.size (fun _ _ => rfl)).below h) h.size (by omega))
    have HC3 := Lib.hid (fun (w' : World) (h : Below w1.heap.size w1 w') => clone_any A3 tok.length c3 tok w' w1.heap.size rfl (((H3.out.below HB1.out).keep HB1.out.size (fun _ _ => rfl)).below h) h.size (by omega))
    have hnw := Nat.ne_of_lt hbx
    go_cut [9] (fun v wx => ∃ g B1 d1 B2 d2 B3 d3, v = .pointer (some ⟨g, 0, none⟩) ∧ Hid (BS w1 wx g sp k dst src tok ph 0 B1 d1 B2 d2 B3 d3))
    case first =>
      go_region_held3 (fun w' => w'.cell? ⟨w.heap.size, 0, none⟩ = some (.int .u8 (sp : Int)) ∧ w'.cell? ⟨w.heap.size, 1, none⟩ = some (.slice A1 dst.length c1) ∧ w'.cell? ⟨w.heap.size, 2, none⟩ = some (.slice A2 src.length c2) ∧ w'.cell? ⟨w.heap.size, 3, none⟩ = some (.slice A3 tok.length c3)) (first | go_keep | (exact ⟨cell_far7 (by assumption) (by assumption) _ _ _ _ _ _ _, cell_far7 (by assumption) (by assumption) _ _ _ _ _ _ _, cell_far7 (by assumption) (by assumption) _ _ _ _ _ _ _, cell_far7 (by assumption) (by assumption) _ _ _ _ _ _ _⟩))
        (first
        | (go_simp; go_at_call_of 22 (Value.slice A1 dst.length c1);
            (first
              | (with_reducible show Calls _ _ _ (World.drew (World.alloc _ _)) _; have STc := Lib.hid (CS.start2 w1))
              | (with_reducible show Calls _ _ _ (World.drew _) _; have STc := Lib.hid (CS.start w1))
              | (with_reducible show Calls _ _ _ (World.alloc _ _) _; have STc := Lib.hid ST.out.alloc)
              | (have STc := ST));
            refine (HC1.out _ STc.out.bel).mono ?_; rintro e v1 ⟨B1, d1, rfl, _, _, hown1, hbq1⟩; have ST := Lib.hid (STc.out.call hown1 hbq1); have q0 := (ST.out.bel.cell (p := ⟨w.heap.size, 0, none⟩) hbx).trans e0; have q1 := (ST.out.bel.cell (p := ⟨w.heap.size, 1, none⟩) hbx).trans e1; have q2 := (ST.out.bel.cell (p := ⟨w.heap.size, 2, none⟩) hbx).trans e2; have q3 := (ST.out.bel.cell (p := ⟨w.heap.size, 3, none⟩) hbx).trans e3; have hnv := Nat.ne_of_lt (Nat.lt_of_lt_of_le hbx ST.out.bel.size); try (have hng := Nat.ne_of_lt (Nat.lt_of_lt_of_le hbx (ST.out.blk _ rfl).1)); try (obtain ⟨z0, z1, z2, z3, z4, z5, z6, y0, y1, y2, y3, y4, y5, y6⟩ := ST.out.zero))
        | (go_simp; go_at_call_of 22 (Value.slice A2 src.length c2);
            (first
              | (with_reducible show Calls _ _ _ (World.drew (World.alloc _ _)) _; have STc := Lib.hid (CS.start2 w1))
              | (with_reducible show Calls _ _ _ (World.drew _) _; have STc := Lib.hid (CS.start w1))
              | (with_reducible show Calls _ _ _ (World.alloc _ _) _; have STc := Lib.hid ST.out.alloc)
              | (have STc := ST));
            refine (HC2.out _ STc.out.bel).mono ?_; rintro e v2 ⟨B2, d2, rfl, _, _, hown2, hbq2⟩; have ST := Lib.hid (STc.out.call hown2 hbq2); have q0 := (ST.out.bel.cell (p := ⟨w.heap.size, 0, none⟩) hbx).trans e0; have q1 := (ST.out.bel.cell (p := ⟨w.heap.size, 1, none⟩) hbx).trans e1; have q2 := (ST.out.bel.cell (p := ⟨w.heap.size, 2, none⟩) hbx).trans e2; have q3 := (ST.out.bel.cell (p := ⟨w.heap.size, 3, none⟩) hbx).trans e3; have hnv := Nat.ne_of_lt (Nat.lt_of_lt_of_le hbx ST.out.bel.size); try (have hng := Nat.ne_of_lt (Nat.lt_of_lt_of_le hbx (ST.out.blk _ rfl).1)); try (obtain ⟨z0, z1, z2, z3, z4, z5, z6, y0, y1, y2, y3, y4, y5, y6⟩ := ST.out.zero))
        | (go_simp; go_at_call_of 22 (Value.slice A3 tok.length c3);
            (first
              | (with_reducible show Calls _ _ _ (World.drew (World.alloc _ _)) _; have STc := Lib.hid (CS.start2 w1))
              | (with_reducible show Calls _ _ _ (World.drew _) _; have STc := Lib.hid (CS.start w1))
              | (with_reducible show Calls _ _ _ (World.alloc _ _) _; have STc := Lib.hid ST.out.alloc)
              | (have STc := ST));
            refine (HC3.out _ STc.out.bel).mono ?_; rintro e v3 ⟨B3, d3, rfl, _, _, hown3, hbq3⟩; have ST := Lib.hid (STc.out.call hown3 hbq3); have q0 := (ST.out.bel.cell (p := ⟨w.heap.size, 0, none⟩) hbx).trans e0; have q1 := (ST.out.bel.cell (p := ⟨w.heap.size, 1, none⟩) hbx).trans e1; have q2 := (ST.out.bel.cell (p := ⟨w.heap.size, 2, none⟩) hbx).trans e2; have q3 := (ST.out.bel.cell (p := ⟨w.heap.size, 3, none⟩) hbx).trans e3; have hnv := Nat.ne_of_lt (Nat.lt_of_lt_of_le hbx ST.out.bel.size); try (have hng := Nat.ne_of_lt (Nat.lt_of_lt_of_le hbx (ST.out.blk _ rfl).1)); try (obtain ⟨z0, z1, z2, z3, z4, z5, z6, y0, y1, y2, y3, y4, y5, y6⟩ := ST.out.zero)))
      all_goals
        go_wp2_with fail
        go_meet
        first
          | have HFIN := Lib.hid (ST.out.fin (sp := sp) (k := k) (ph := ph) d1 d2 d3 _ _ _ rfl rfl rfl)
          | have HFIN := Lib.hid (ST.out.fin2 (sp := sp) (k := k) (ph := ph) d1 d2 d3 _ _ _ rfl rfl rfl)
        exact ⟨_, B1, d1, B2, d2, B3, d3, rfl, HFIN⟩
    case rest =>
      obtain ⟨g, B1, d1, B2, d2, B3, d3, rfl, HBS⟩ := hcut
      have hnpos : 0 < ns.length := by have := HNS.out; omega
      obtain ⟨bN, oN, hAN, hbN, hcN⟩ := Sl.at_ HN.out hnpos
      subst hAN
      have HCN := Lib.hid hcN
      clear hcN e0 e1 e2 e3
      unfold maxLen at hcm
      go_wp2
      go_loopw [55] (fun i wr => ∃ j : Nat, j ≤ k ∧ i = .int .i64 (j : Int) ∧ Hid (BS w1 wr g sp k dst src tok ph (val 0 (ns.take j)) B1 d1 B2 d2 B3 d3)) (fun i _ => k - (intOf i).toNat)
      case atStart => exact ⟨0, Nat.zero_le _, rfl, HBS⟩
      case round =>
        obtain ⟨j, hj, rfl, HBJ⟩ := hrel
        by_cases hlt2 : j < k
        · have hjn : j < ns.length := by have := HNS.out; omega
          obtain ⟨x, hxj⟩ : ∃ x, ns[j]? = some x := ⟨_, List.getElem?_eq_getElem hjn⟩
          have hcx : wr.cell? ⟨bN, oN + j, none⟩ = some (.int .u8 (x.toNat : Int)) := (HBJ.out.bel.cell (p := ⟨bN, oN + j, none⟩) (Nat.lt_of_lt_of_le hbN HB1.out.size)).trans ((HB1.out.cell (p := ⟨bN, oN + j, none⟩) hbN).trans (HCN.out j x hxj))
          have hxl := x.toNat_lt
          have hv : val 0 (ns.take j) < 18014398509481984 := by
            have h1 := val_lt (ns.take j) 0 1 (by omega)
            have h2 : (ns.take j).length ≤ 4 := by rw [List.length_take]; omega
            have h3 : 256 ^ (ns.take j).length ≤ 256 ^ 4 := Nat.pow_le_pow_right (by omega) h2
            have h4 : (256 ^ 4 : Nat) = 4294967296 := by decide
            omega
          have hor := or_byte (val 0 (ns.take j)) x hv
          have HNX := Lib.hid (show val 0 (ns.take (j + 1)) = 256 * val 0 (ns.take j) + x.toNat by rw [take_next ns j x hxj, val_snoc])
          have c5 : wr.cell? ⟨g, 5, none⟩ = some (.int .u64 (val 0 (ns.take j) : Int)) := HBJ.out.wh.cell 5
          have f5 := HBJ.out.wh.frozen 5
          clear hxj
          generalize val 0 (ns.take j) = v at *
          go_wp2
          go_roundw
          case rel =>
            refine ⟨j + 1, by omega, by go_num, Lib.hid ?_⟩
            rw [HNX.out]
            have h := HBJ.out
            have hge := h.ge
            have hv2 : ((256 * v + x.toNat : Nat) : Int) = ((256 * v + x.toNat : Nat) : Int) := rfl
            exact ⟨h.bel.setCell (p := ⟨g, 5, none⟩) hge _, hge, by have hp := h.wh.put 5 (.int .u64 ((256 * v + x.toNat : Nat) : Int)); exact hp, h.s1.grown (grown_set wr g 5 _) (.inl rfl), h.s2.grown (grown_set wr g 5 _) (.inl rfl), h.s3.grown (grown_set wr g 5 _) (.inl rfl)⟩
          case measure => simp [intOf]; omega
        · obtain rfl : j = k := by omega
          have htake : ns.take j = ns := List.take_of_length_le (by rw [HNS.out]; exact Nat.le_refl _)
          rw [htake] at HBJ
          have hlo : w.heap.size + 1 < w1.heap.size := by have := HZ2.out; omega
          have hbw := HBJ.out.bel
          have hrr := HR2.out.below hbw hlo
          have g0 : wr.cell? ⟨g, 0, none⟩ = some (.int .u8 (sp : Int)) := HBJ.out.wh.cell 0
          have g1 : wr.cell? ⟨g, 1, none⟩ = some (.slice B1 dst.length d1) := HBJ.out.wh.cell 1
          have g2 : wr.cell? ⟨g, 2, none⟩ = some (.slice B2 src.length d2) := HBJ.out.wh.cell 2
          have g3 : wr.cell? ⟨g, 3, none⟩ = some (.slice B3 tok.length d3) := HBJ.out.wh.cell 3
          have g4 : wr.cell? ⟨g, 4, none⟩ = some (.bool ph) := HBJ.out.wh.cell 4
          have g5 : wr.cell? ⟨g, 5, none⟩ = some (.int .u64 (val 0 ns : Int)) := HBJ.out.wh.cell 5
          have g6 : wr.cell? ⟨g, 6, none⟩ = some (.int .i64 (j : Int)) := HBJ.out.wh.cell 6
          have z0 : wr.cell? ⟨w.heap.size + 1, 0, none⟩ = some (.int .u8 0) := hrr.cell 0
          have y0 := hrr.frozen 0
          have z1 : wr.cell? ⟨w.heap.size + 1, 1, none⟩ = some (.slice none 0 0) := hrr.cell 1
          have y1 := hrr.frozen 1
          have z2 : wr.cell? ⟨w.heap.size + 1, 2, none⟩ = some (.slice none 0 0) := hrr.cell 2
          have y2 := hrr.frozen 2
          have z3 : wr.cell? ⟨w.heap.size + 1, 3, none⟩ = some (.slice none 0 0) := hrr.cell 3
          have y3 := hrr.frozen 3
          have z4 : wr.cell? ⟨w.heap.size + 1, 4, none⟩ = some (.bool false) := hrr.cell 4
          have y4 := hrr.frozen 4
          have z5 : wr.cell? ⟨w.heap.size + 1, 5, none⟩ = some (.int .u64 0) := hrr.cell 5
          have y5 := hrr.frozen 5
          have z6 : wr.cell? ⟨w.heap.size + 1, 6, none⟩ = some (.int .i64 0) := hrr.cell 6
          have y6 := hrr.frozen 6
          clear htake
          go_wp2
          refine bodyPost_ret (results_ct Tryd.results24 _ _ ⟨w.heap.size + 1, 0, none⟩ _ rfl (load_head (((((((hrr.put 0 (.int .u8 (sp : Int))).put 1 (.slice B1 dst.length d1)).put 2 (.slice B2 src.length d2)).put 3 (.slice B3 tok.length d3)).put 4 (.bool ph)).put 5 (.int .u64 (val 0 ns : Int))).put 6 (.int .i64 (j : Int))) rfl)) rfl ?_
          have hlw : w.heap.size ≤ w1.heap.size := by omega
          exact ⟨B1, d1, B2, d2, B3, d3, rfl, (((((((HBJ.out.s1.grown (grown_set _ (w.heap.size + 1) 0 (.int .u8 (sp : Int))) (.inr hlo)).grown (grown_set _ (w.heap.size + 1) 1 (.slice B1 dst.length d1)) (.inr hlo)).grown (grown_set _ (w.heap.size + 1) 2 (.slice B2 src.length d2)) (.inr hlo)).grown (grown_set _ (w.heap.size + 1) 3 (.slice B3 tok.length d3)) (.inr hlo)).grown (grown_set _ (w.heap.size + 1) 4 (.bool ph)) (.inr hlo)).grown (grown_set _ (w.heap.size + 1) 5 (.int .u64 (val 0 ns : Int))) (.inr hlo)).grown (grown_set _ (w.heap.size + 1) 6 (.int .i64 (j : Int))) (.inr hlo)).sy.mono hlw, (((((((HBJ.out.s2.grown (grown_set _ (w.heap.size + 1) 0 (.int .u8 (sp : Int))) (.inr hlo)).grown (grown_set _ (w.heap.size + 1) 1 (.slice B1 dst.length d1)) (.inr hlo)).grown (grown_set _ (w.heap.size + 1) 2 (.slice B2 src.length d2)) (.inr hlo)).grown (grown_set _ (w.heap.size + 1) 3 (.slice B3 tok.length d3)) (.inr hlo)).grown (grown_set _ (w.heap.size + 1) 4 (.bool ph)) (.inr hlo)).grown (grown_set _ (w.heap.size + 1) 5 (.int .u64 (val 0 ns : Int))) (.inr hlo)).grown (grown_set _ (w.heap.size + 1) 6 (.int .i64 (j : Int))) (.inr hlo)).sy.mono hlw, (((((((HBJ.out.s3.grown (grown_set _ (w.heap.size + 1) 0 (.int .u8 (sp : Int))) (.inr hlo)).grown (grown_set _ (w.heap.size + 1) 1 (.slice B1 dst.length d1)) (.inr hlo)).grown (grown_set _ (w.heap.size + 1) 2 (.slice B2 src.length d2)) (.inr hlo)).grown (grown_set _ (w.heap.size + 1) 3 (.slice B3 tok.length d3)) (.inr hlo)).grown (grown_set _ (w.heap.size + 1) 4 (.bool ph)) (.inr hlo)).grown (grown_set _ (w.heap.size + 1) 5 (.int .u64 (val 0 ns : Int))) (.inr hlo)).grown (grown_set _ (w.heap.size + 1) 6 (.int .i64 (j : Int))) (.inr hlo)).sy.mono hlw, ((((((((HB1.out.trans (hbw.mono HB1.out.size)).setCell (p := ⟨w.heap.size + 1, 0, none⟩) (Nat.le_succ _) (.int .u8 (sp : Int))).setCell (p := ⟨w.heap.size + 1, 1, none⟩) (Nat.le_succ _) (.slice B1 dst.length d1)).setCell (p := ⟨w.heap.size + 1, 2, none⟩) (Nat.le_succ _) (.slice B2 src.length d2)).setCell (p := ⟨w.heap.size + 1, 3, none⟩) (Nat.le_succ _) (.slice B3 tok.length d3)).setCell (p := ⟨w.heap.size + 1, 4, none⟩) (Nat.le_succ _) (.bool ph)).setCell (p := ⟨w.heap.size + 1, 5, none⟩) (Nat.le_succ _) (.int .u64 (val 0 ns : Int))).setCell (p := ⟨w.heap.size + 1, 6, none⟩) (Nat.le_succ _) (.int .i64 (j : Int)))⟩

theorem bare_ok (sp k : Nat) (dst src tok ns : List UInt8) (ph : Bool) (A1 : Option Addr) (c1 : Nat) (A2 : Option Addr) (c2 : Nat) (A3 : Option Addr) (c3 a t c4 : Nat) (bb off : Nat) (f y : Int) (b : Bool) (AN : Option Addr) (cn : Nat) (w : World) (hb : ((sp : Int) == 2) = b)
    (hy : w.cell? ⟨bb, off, none⟩ = some (.int .u8 y)) (ht : 0 < t) (htc : t ≤ 9223372036854775807) (hx : (bits .andNot .u8 (bits .xor .u8 f y) (if b then 31 else 15) == 0) = true)
    (hsz : bits .and .u8 f 3 = (k : Int) - 1) (hk : 1 ≤ k) (hk4 : k ≤ 4) (hres : (bits .and .u8 f (if b then 24 else 12) != 0) = false) (hph : (bits .and .u8 f 4 != 0) = ph) (hns : ns.length = k) (hcn : k ≤ cn) (hcm : cn ≤ maxLen)
    (h1 : Sl w w.heap.size A1 dst) (h2 : Sl w w.heap.size A2 src) (h3 : Sl w w.heap.size A3 tok) (hN : Sl w w.heap.size AN ns) (hd : dst.length ≤ 20) (hs : src.length ≤ 20) (htk : tok.length ≤ 3000) :
    Calls Tryd.prog 24 #[.agg (partC sp A1 dst.length c1 A2 src.length c2 A3 tok.length c3 a (some ⟨bb, off, none⟩) t c4), .int .u8 f, .slice AN k cn] w (BareGave w sp k (val 0 ns) dst src tok ph) :=
  (bare_gen sp k k dst src tok ns ph A1 c1 A2 c2 A3 c3 a t c4 bb off f y b AN cn w hb hy ht htc hx hsz hk hk4 hres hph hns (Nat.le_refl k) hcn hcm h1 h2 h3 hN hd hs htk).mono fun e w' h => by
    obtain ⟨B1, d1, B2, d2, B3, d3, e1, h1, h2, h3, h4⟩ := h
    exact ⟨B1, d1, B2, d2, B3, d3, e1, h1.sv, h2.sv, h3.sv, h4⟩
end Go.Proofs.YtbnnjkjmadnjkaaDoor
