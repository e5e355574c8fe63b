/-
  The walks through frame.wireKind and ackNumbers.
-/
import Derived.Test.YtkkojhkglcigmaaDoorMay
import Derived.Test.YtkkojhkglcigmaaDoorAcks
import Derived.Deep.RegionHeld3
namespace Go.Proofs.YtkkojhkglcigmaaDoor
open Go.RowKit
set_option linter.unusedVariables false

/-- A frame's kind as it is on the wire. -/
def wireN (f : PF) : Nat := if f.kind = 8 then 10 + (if f.off = 0 then 0 else 4) + (if f.fin then 1 else 0) else f.kind

set_option maxRecDepth 10000 in
set_option maxHeartbeats 1000000 in
theorem wire_any (R : Array Value) (f : PF) (a : SA) (w : World) (hR : RowIs R f a) :
    Calls Tryd.prog 39 #[.agg R] w fun e w' => e = .returned (.int .u64 (wireN f : Nat)) ∧ Below w.heap.size w w' := by
  have h2 := hR.off
  have h6 := hR.fin
  have b1 : bits .or .u64 8 2 = 10 := by decide
  have b2 : bits .or .u64 10 4 = 14 := by decide
  have b3 : bits .or .u64 14 1 = 15 := by decide
  have b4 : bits .or .u64 10 1 = 11 := by decide
  have HW : Hid (wireN f = if f.kind = 8 then 10 + (if f.off = 0 then 0 else 4) + (if f.fin then 1 else 0) else f.kind) := rfl
  generalize wireN f = q at *
  by_cases hk : f.kind = 8
  · have h0 : R[0]? = some (.int .u64 8) := by rw [hR.kind, hk]; rfl
    rw [if_pos hk] at HW
    clear hR hk
    generalize f.fin = fin at *
    by_cases ho : f.off = 0
    · rw [if_pos ho] at HW
      have t1 : ((f.off : Int) != 0) = false := by rw [ho]; rfl
      clear ho
      cases fin
      · obtain rfl : q = 10 := HW.out
        go_enter Tryd.func39, Tryd.ntmps39
        go_wp2
        go_ret
        exact ⟨rfl, (Below.refl _ _).alloc (Nat.le_refl _) _⟩
      · obtain rfl : q = 11 := HW.out
        go_enter Tryd.func39, Tryd.ntmps39
        go_wp2
        go_ret
        exact ⟨rfl, (Below.refl _ _).alloc (Nat.le_refl _) _⟩
    · rw [if_neg ho] at HW
      have t1 : ((f.off : Int) != 0) = true := by simp; omega
      clear ho
      cases fin
      · obtain rfl : q = 14 := HW.out
        go_enter Tryd.func39, Tryd.ntmps39
        go_wp2
        go_ret
        exact ⟨rfl, (Below.refl _ _).alloc (Nat.le_refl _) _⟩
      · obtain rfl : q = 15 := HW.out
        go_enter Tryd.func39, Tryd.ntmps39
        go_wp2
        go_ret
        exact ⟨rfl, (Below.refl _ _).alloc (Nat.le_refl _) _⟩
  · have h0 := hR.kind
    obtain rfl : q = f.kind := HW.out.trans (if_neg hk)
    have t1 : ((f.kind : Int) != 8) = true := by simp; omega
    clear hR HW
    go_enter Tryd.func39, Tryd.ntmps39
    go_wp2
    go_ret
    exact ⟨rfl, (Below.refl _ _).alloc (Nat.le_refl _) _⟩

/-- The numbers of the ranges below the last one, from the one at place i - 1 down. -/
def lowNums (l : List (Nat × Nat)) : Nat → List Nat
  | 0 => []
  | i + 1 => [(l.getD (i + 1) (0, 0)).1 - (l.getD i (0, 0)).2 - 1, (l.getD i (0, 0)).2 - 1 - (l.getD i (0, 0)).1] ++ lowNums l i

/-- An ACK's numbers, behind its kind. -/
def ackNums (f : PF) : List Nat :=
  let k := f.acks.length - 1
  let top := f.acks.getD k (0, 0)
  [top.2 - 1, f.delay, k, top.2 - 1 - top.1] ++ lowNums f.acks k

theorem sv_blk (w : World) (cs : Array Value) (t : TypeId) (B : Nat) (hB : w.heap.size < B) : Sv (w.alloc (.cells cs t)) B (some ⟨w.heap.size, 0, none⟩) cs.toList := by
  intro _
  refine ⟨w.heap.size, 0, rfl, hB, fun i v hv => ?_⟩
  rw [Nat.zero_add]
  have := cell_of_row (w.alloc (.cells cs t)) w.heap.size i cs t (0, 0) (heap_alloc_new w _)
  rw [this]
  simpa using hv

theorem alloc_sz (w : World) (o : Obj) : (w.alloc o).heap.size = w.heap.size + 1 := by simp

theorem step_append_sv {P : Program} {ops : Array Oper} {o : Oper} {a : Act} {w : World} {K : Act → World → Prop} {Q : Exit → Act → World → Prop} {E : Prop} (hgd : o.guard = none) (s x : Operand) (t : TypeId)
    (ho : o.op = .call { callee := .builtin .append, args := #[s, x], argTypes := #[t, t] })
    (base : Nat) (e : TypeId) (i : TypeInfo) (z : Value) (bytes : Nat) (ht : P.underlying t = some (.slice e)) (hi : P.info? e = some i) (hz : i.zero = some z)
    (hsize : i.size = 1) (hby : i.bytes = bytes) (hzs : z.cells.size = 1)
    (v : Value) (n : Nat) (xs : List Value) (hs : a.eval s = v) (hown : w.ownsRow base e 1 v n xs)
    (B : Nat) (A : Option Addr) (m c : Nat) (news : List Value) (hx : a.eval x = .slice A m c) (hr : Sv w B A news) (hm : news.length = m) (h1 : ∀ u ∈ news, u.oneCell' = true)
    (h63 : n + m ≤ maxLen) (hbytes : (n + m) * bytes ≤ 140737488355328) (hbase : base ≤ w.heap.size)
    (h : ∀ v' w', w'.ownsRow base e 1 v' (n + m) (xs ++ news) → w.grownBy w' v.ownBlock → (v'.ownBlock = v.ownBlock ∨ v'.ownBlock = some w.heap.size) → K (a.put o.dst v') w') :
    if Region.wanted o (yielded ops a.tmps) = true then Oper.wp P o a w K Q else E := by
  have hw : Region.wanted o (yielded ops a.tmps) = true := by simp [Region.wanted, hgd]
  rw [if_pos hw]
  obtain ⟨v', w', hrun, h2, h3, h4⟩ := run_append_sv (P := P) w base t o.type e i z bytes ht hi hz hsize hby hzs v n xs hown B A m c news hr hm h1 h63 hbytes hbase
  unfold Oper.wp execOp
  simp only [ho, resolve, invoke, builtin, Sem.run_bind, Sem.run_pure, Result.andThen_ok, List.map_toArray, List.map_cons, List.map_nil, hs, hx, hrun]
  exact h v' w' h2 h3 h4

theorem info64 : (Tryd.prog.info? 24).map (fun i => (i.zero, i.size, i.bytes)) = some (some (.int .u64 0), 1, 8) := by kernel_rfl

/-- Numbers of its own. -/
def NumsGave (w : World) (ns : List Nat) (e : Ending) (w' : World) : Prop :=
  ∃ A' c', e = .returned (.slice A' ns.length c') ∧ ns.length ≤ c' ∧ c' ≤ maxLen ∧ w'.ownsRow w.heap.size 24 1 (.slice A' ns.length c') ns.length (ns.map cell64) ∧ Below w.heap.size w w'

set_option maxRecDepth 100000 in
set_option maxHeartbeats 4000000 in
theorem ackNums_any (R : Array Value) (f : PF) (a : SA) (w : World) (B : Nat) (hR : RowIs R f a) (hf : FrAt w B f a) (hB : B ≤ w.heap.size) (hne : f.acks ≠ []) (hok : OkR f.acks) (hlen : f.acks.length ≤ 65536) :
    Calls Tryd.prog 40 #[.agg R] w (NumsGave w (ackNums f)) := by
  obtain ⟨i0, hi0, hz0, hz1, hz2⟩ := info_parts info64
  have h25 := hR.acks
  have h26 := hR.delay
  obtain ⟨b, off, hA, hb, hc⟩ := hf.acks hne
  rw [hA] at h25
  obtain ⟨k, hk⟩ : ∃ k, f.acks.length = k + 1 := ⟨f.acks.length - 1, by have := List.length_pos_iff.2 hne; omega⟩
  rw [hk] at h25
  obtain ⟨top, htop⟩ : ∃ x, f.acks[k]? = some x := ⟨_, List.getElem?_eq_getElem (by omega)⟩
  have hct := hc k top htop
  have hot := hok k top htop
  have hto1 := hot.1
  have hto2 := hot.2.1
  have hac := hf.ac
  have ham := hf.am
  unfold maxLen at ham
  rw [hk] at hac
  have HN : Hid (ackNums f = [top.2 - 1, f.delay, k, top.2 - 1 - top.1] ++ lowNums f.acks k) := by
    show ackNums f = _
    unfold ackNums
    simp only [hk, Nat.add_sub_cancel]
    rw [show f.acks.getD k (0, 0) = top by simp [List.getD, htop]]
  have HC := Lib.hid hc
  have HOK := Lib.hid hok
  have HK := Lib.hid hk
  have HTOP := Lib.hid htop
  have hb1 : b < w.heap.size := by omega
  have hct1 := hct.1
  have hct2 := hct.2
  clear hR hf hne hok hA hc hk htop hct hot
  generalize ackNums f = ns at *
  go_enter Tryd.func40, Tryd.ntmps40
  go_wp2
  have hb01 : Below w.heap.size w (w.alloc (.cells R 32)) := (Below.refl _ _).alloc (Nat.le_refl _) _
  have hbox : (w.alloc (.cells R 32)).cell? ⟨w.heap.size, 25, none⟩ = some (.slice (some ⟨b, off, none⟩) (k + 1) a.ac) := by
    rw [cell_of_row _ _ 25 R 32 (0, 0) (heap_alloc_new w _)]
    exact h25
  have hz1' : (w.alloc (.cells R 32)).heap.size = w.heap.size + 1 := by simp
  have hbb : Below (w.heap.size + 1) (w.alloc (.cells R 32)) (((w.alloc (.cells R 32)).alloc (.cells #[.int .u64 (top.1 : Int), .int .u64 (top.2 : Int)] 55)).alloc (.cells #[.int .u64 ((top.2 : Int) - 1), .int .u64 (f.delay : Int), .int .u64 (k : Int), .int .u64 ((top.2 : Int) - 1 - (top.1 : Int))] 24)) :=
    ((Below.refl _ _).alloc (by simp) _).alloc (by simp) _
  have hown0 : (((w.alloc (.cells R 32)).alloc (.cells #[.int .u64 (top.1 : Int), .int .u64 (top.2 : Int)] 55)).alloc (.cells #[.int .u64 ((top.2 : Int) - 1), .int .u64 (f.delay : Int), .int .u64 (k : Int), .int .u64 ((top.2 : Int) - 1 - (top.1 : Int))] 24)).ownsRow (w.heap.size + 1) 24 1 (.slice (some ⟨w.heap.size + 1 + 1, 0, none⟩) 4 4) 4 ([top.2 - 1, f.delay, k, top.2 - 1 - top.1].map cell64) := by
    refine ⟨rfl, .inr ⟨w.heap.size + 1 + 1, 4, _, rfl, by omega, by have := heap_alloc_new ((w.alloc (.cells R 32)).alloc (.cells #[.int .u64 (top.1 : Int), .int .u64 (top.2 : Int)] 55)) (.cells #[.int .u64 ((top.2 : Int) - 1), .int .u64 (f.delay : Int), .int .u64 (k : Int), .int .u64 ((top.2 : Int) - 1 - (top.1 : Int))] 24); simpa using this, by omega, by unfold maxLen; omega, rfl, ?_⟩⟩
    show [_, _, _, _] = [_, _, _, _]
    unfold cell64
    rw [show ((top.2 - 1 : Nat) : Int) = (top.2 : Int) - 1 by omega, show ((top.2 - 1 - top.1 : Nat) : Int) = (top.2 : Int) - 1 - (top.1 : Int) by omega]
  have HOWN0 := Lib.hid hown0
  have HBB := Lib.hid hbb
  have HB01 := Lib.hid hb01
  have HBOX := Lib.hid hbox
  clear hown0 hbb hb01 hbox hct1 hct2
  have hk16 : k ≤ 65535 := by have := HK.out; omega
  generalize (w.alloc (.cells R 32)) = w1 at *
  go_loopw [5, 6] (fun v i wr => ∃ (j : Nat) (pre : List Nat), j ≤ k ∧ i = .int .i64 ((j : Int) - 1) ∧ Hid (lowNums f.acks k = pre ++ lowNums f.acks j) ∧ pre.length + 2 * j = 2 * k ∧ Hid (wr.ownsRow (w.heap.size + 1) 24 1 v (4 + pre.length) (([top.2 - 1, f.delay, k, top.2 - 1 - top.1] ++ pre).map cell64)) ∧ Hid (Below (w.heap.size + 1) w1 wr)) (fun _ i _ => (intOf i + 1).toNat)
  case atStart => exact ⟨k, [], Nat.le_refl _, rfl, Lib.hid rfl, by simp, Lib.hid HOWN0.out, HBB⟩
  case round =>
    obtain ⟨j, pre, hj, rfl, hsplit, hpl, hown, hbel⟩ := hrel
    have hbox1 := (hbel.out.cell (p := ⟨w.heap.size, 25, none⟩) (Nat.lt_succ_self _)).trans HBOX.out
    by_cases h0 : j = 0
    · subst h0
      have hns : ns = [top.2 - 1, f.delay, k, top.2 - 1 - top.1] ++ pre := by
        rw [HN.out, hsplit.out]
        simp [lowNums]
      obtain ⟨A', c', rfl, q1, q2⟩ := own_form hown.out
      go_wp2
      go_ret
      rw [hns]
      refine ⟨A', c', by rw [List.length_append]; rfl, by rw [List.length_append]; exact q1, q2, ?_, ?_⟩
      · rw [List.length_append]
        exact own_mono hown.out (Nat.le_succ _)
      · exact HB01.out.trans (hbel.out.mono (Nat.le_succ _))
    · obtain ⟨m, rfl⟩ : ∃ m, j = m + 1 := ⟨j - 1, by omega⟩
      have HPL := Lib.hid hpl
      obtain ⟨x, hx⟩ : ∃ x, f.acks[m]? = some x := ⟨_, List.getElem?_eq_getElem (by have := HK.out; omega)⟩
      obtain ⟨y, hy⟩ : ∃ y, f.acks[m + 1]? = some y := ⟨_, List.getElem?_eq_getElem (by have := HK.out; omega)⟩
      have hbw : Below w.heap.size w wr := HB01.out.trans (hbel.out.mono (Nat.le_succ _))
      have c1 := (hbw.cell (p := ⟨b, off + m * 2, none⟩) hb1).trans (HC.out m x hx).1
      have c2 := (hbw.cell (p := ⟨b, off + m * 2 + 1, none⟩) hb1).trans (HC.out m x hx).2
      have c3 := (hbw.cell (p := ⟨b, off + (m + 1) * 2, none⟩) hb1).trans (HC.out (m + 1) y hy).1
      have ox := HOK.out m x hx
      have oy := (HOK.out (m + 1) y hy)
      have g1 := ox.1
      have g2 := ox.2.1
      have g3 : x.2 < y.1 := oy.2.2 x (by omega) (by simpa using hx)
      have g4 : y.1 < 4611686018427387905 := by have := oy.1; have := oy.2.1; omega
      have hsz := hbw.size
      have hbs : b < wr.heap.size := by omega
      have hws : w.heap.size < wr.heap.size := by have := hbel.out.size; have := World.block_lt_of_cell? w1 _ HBOX.out; simp at this; omega
      have hbox2 : ∀ o : Obj, (wr.alloc o).cell? ⟨w.heap.size, 25, none⟩ = some (.slice (some ⟨b, off, none⟩) (k + 1) a.ac) := fun o => (World.cell?_alloc_lt wr o ⟨w.heap.size, 25, none⟩ hws).trans hbox1
      have c3' : ∀ o : Obj, (wr.alloc o).cell? ⟨b, off + (m + 1) * 2, none⟩ = some (.int .u64 (y.1 : Int)) := fun o => (World.cell?_alloc_lt wr o ⟨b, off + (m + 1) * 2, none⟩ hbs).trans c3
      have w1' : IntKind.i64.wrap ((m : Int) + 1) = (m : Int) + 1 := IntWalk.i64_in _ (by omega)
      have w2' : IntKind.i64.wrap (m : Int) = (m : Int) := IntWalk.i64_in _ (by omega)
      have hm1 : m + 1 < k + 1 := by omega
      have hm0 : m < k + 1 := by omega
      have HX := Lib.hid hx
      have HY := Lib.hid hy
      clear hx hy ox oy hpl hbw c3
      obtain ⟨A5, c5, hv5, hn5, hm5⟩ := own_form hown.out
      subst hv5
      have hlen5 : 4 + pre.length ≤ 140000 := by have := HPL.out; omega
      have HOA := Lib.hid (fun o1 o2 => (show (((wr.alloc o1).alloc o2).drew).ownsRow (w.heap.size + 1) 24 1 (.slice A5 (4 + pre.length) c5) (4 + pre.length) (([top.2 - 1, f.delay, k, top.2 - 1 - top.1] ++ pre).map cell64) from (hown.out.alloc o1).alloc o2))
      have i1 : (m : Int) + 1 < (k : Int) + 1 := by omega
      have i2 : (0 : Int) ≤ (m : Int) + 1 := by omega
      have i3 : (m : Int) + 1 ≤ (k : Int) := by omega
      have hblk : ∀ g, (Value.slice A5 (4 + pre.length) c5).ownBlock = some g → w.heap.size + 1 ≤ g ∧ g < wr.heap.size := fun g hg => hown.out.lt g hg
      have HBLK := Lib.hid hblk
      clear hblk
      go_wp2
      have HSV := Lib.hid (fun o1 => (show Sv (((wr.alloc o1).alloc (.cells #[.int .u64 ((y.1 : Int) - (x.2 : Int) - 1), .int .u64 ((x.2 : Int) - 1 - (x.1 : Int))] 24)).drew) (wr.heap.size + 1 + 1) (some ⟨wr.heap.size + 1, 0, none⟩) [.int .u64 ((y.1 : Int) - (x.2 : Int) - 1), .int .u64 ((x.2 : Int) - 1 - (x.1 : Int))] from by
        have := sv_blk (wr.alloc o1) #[.int .u64 ((y.1 : Int) - (x.2 : Int) - 1), .int .u64 ((x.2 : Int) - 1 - (x.1 : Int))] 24 (wr.heap.size + 1 + 1) (by simp)
        simp only [alloc_sz] at this
        exact this))
      have HONE : Hid (∀ u ∈ [Value.int .u64 ((y.1 : Int) - (x.2 : Int) - 1), Value.int .u64 ((x.2 : Int) - 1 - (x.1 : Int))], u.oneCell' = true) := by
        intro u hu
        simp only [List.mem_cons, List.not_mem_nil, or_false] at hu
        rcases hu with rfl | rfl <;> rfl
      have H63 : Hid (4 + pre.length + 2 ≤ maxLen) := by show _ ≤ _; unfold maxLen; omega
      have HBY : Hid ((4 + pre.length + 2) * 8 ≤ 140737488355328) := by show _ ≤ _; omega
      have HQ1 := Lib.hid (fun o1 o2 => (show (((wr.alloc o1).alloc o2).drew).cell? ⟨w.heap.size, 25, none⟩ = some (.slice (some ⟨b, off, none⟩) (k + 1) a.ac) from (World.cell?_alloc_lt (wr.alloc o1) o2 ⟨w.heap.size, 25, none⟩ (by simp; omega)).trans (hbox2 o1)))
      have HQ2 := Lib.hid (fun o1 o2 => (show (((wr.alloc o1).alloc o2).drew).cell? ⟨b, off + (m + 1) * 2, none⟩ = some (.int .u64 (y.1 : Int)) from (World.cell?_alloc_lt (wr.alloc o1) o2 ⟨b, off + (m + 1) * 2, none⟩ (by simp; omega)).trans (c3' o1)))
      have hxw := Wh.new wr 55 #[.int .u64 (x.1 : Int), .int .u64 (x.2 : Int)]
      have HQ3 := Lib.hid (fun o2 => (show (((wr.alloc (.cells #[.int .u64 (x.1 : Int), .int .u64 (x.2 : Int)] 55)).alloc o2).drew).cell? ⟨wr.heap.size, 1, none⟩ = some (.int .u64 (x.2 : Int)) from (hxw.alloc o2).cell 1))
      have HQ4 := Lib.hid (fun o2 => (show (((wr.alloc (.cells #[.int .u64 (x.1 : Int), .int .u64 (x.2 : Int)] 55)).alloc o2).drew).cell? ⟨wr.heap.size, 0, none⟩ = some (.int .u64 (x.1 : Int)) from (hxw.alloc o2).cell 0))
      clear hxw
      have HNE1 : Hid (some w.heap.size ≠ (Value.slice A5 (4 + pre.length) c5).ownBlock) := fun e => by have := HBLK.out _ e.symm; omega
      have HNE2 : Hid (some b ≠ (Value.slice A5 (4 + pre.length) c5).ownBlock) := fun e => by have := HBLK.out _ e.symm; omega
      have HNE3 : Hid (some wr.heap.size ≠ (Value.slice A5 (4 + pre.length) c5).ownBlock) := fun e => by have := HBLK.out _ e.symm; omega
      have z1 : IntKind.u64.wrap ((y.1 : Int) - (x.2 : Int)) = (y.1 : Int) - (x.2 : Int) := IntWalk.u64_in _ (by omega)
      have z2 : IntKind.u64.wrap ((y.1 : Int) - (x.2 : Int) - 1) = (y.1 : Int) - (x.2 : Int) - 1 := IntWalk.u64_in _ (by omega)
      have z3 : IntKind.u64.wrap ((x.2 : Int) - 1) = (x.2 : Int) - 1 := IntWalk.u64_in _ (by omega)
      have z4 : IntKind.u64.wrap ((x.2 : Int) - 1 - (x.1 : Int)) = (x.2 : Int) - 1 - (x.1 : Int) := IntWalk.u64_in _ (by omega)
      go_region_held3 (fun w' => w'.cell? ⟨w.heap.size, 25, none⟩ = some (.slice (some ⟨b, off, none⟩) (k + 1) a.ac) ∧ w'.cell? ⟨b, off + (m + 1) * 2, none⟩ = some (.int .u64 (y.1 : Int)) ∧ w'.cell? ⟨wr.heap.size, 1, none⟩ = some (.int .u64 (x.2 : Int)) ∧ w'.cell? ⟨wr.heap.size, 0, none⟩ = some (.int .u64 (x.1 : Int))) (go_keep)
        (first
          | (refine step_append_sv rfl (.tmp 42) (.tmp 60) 64 rfl (w.heap.size + 1) 24 i0 _ 8 Tryd.underlying64 hi0 hz0 hz1 hz2 rfl (.slice A5 (4 + pre.length) c5) (4 + pre.length) _ rfl (HOA.out _ _) (wr.heap.size + 1 + 1) (some ⟨wr.heap.size + 1, 0, none⟩) 2 2 _ rfl (HSV.out _) rfl HONE.out H63.out HBY.out (by simp; omega) ?_; intro v6 w6 hown6 hg6 hat6; have q1 := hg6.cell (HQ1.out _ _) HNE1.out; have q2 := hg6.cell (HQ2.out _ _) HNE2.out; have q3 := hg6.cell (HQ3.out _) HNE3.out; have q4 := hg6.cell (HQ4.out _) HNE3.out))
      have HB6 : Hid (Below (w.heap.size + 1) w1 w6) := by
        have hd : Below (w.heap.size + 1) w1 (((wr.alloc (.cells #[.int .u64 (x.1 : Int), .int .u64 (x.2 : Int)] 55)).alloc (.cells #[.int .u64 ((y.1 : Int) - (x.2 : Int) - 1), .int .u64 ((x.2 : Int) - 1 - (x.1 : Int))] 24)).drew) := ((hbel.out.alloc (by omega) _).alloc (by simp; omega) _).drew
        exact hd.grown hg6 (by simp; omega) (fun g hg => (HBLK.out g hg).1)
      clear z1 z2 z3 z4 q1 q2 q3 q4 hg6 hat6
      have HO6 := Lib.hid hown6
      clear hown6
      go_wp2
      go_roundw
      case rel =>
        have hpl6 := HPL.out
        refine ⟨m, pre ++ [y.1 - x.2 - 1, x.2 - 1 - x.1], by omega, by rw [show ((m : Int) - 1) = (m : Int) - 1 from rfl], Lib.hid ?_, by simp; omega, Lib.hid ?_, HB6⟩
        · rw [hsplit.out]
          show pre ++ ([(f.acks.getD (m + 1) (0, 0)).1 - (f.acks.getD m (0, 0)).2 - 1, (f.acks.getD m (0, 0)).2 - 1 - (f.acks.getD m (0, 0)).1] ++ lowNums f.acks m) = _
          rw [show f.acks.getD (m + 1) (0, 0) = y by simp [List.getD, HY.out], show f.acks.getD m (0, 0) = x by simp [List.getD, HX.out], List.append_assoc]
        · have := HO6.out
          rw [List.length_append, ← List.append_assoc, List.map_append, ← Nat.add_assoc]
          show w6.ownsRow _ _ _ _ (4 + pre.length + 2) (_ ++ [cell64 (y.1 - x.2 - 1), cell64 (x.2 - 1 - x.1)])
          unfold cell64
          rw [show ((y.1 - x.2 - 1 : Nat) : Int) = (y.1 : Int) - (x.2 : Int) - 1 by omega, show ((x.2 - 1 - x.1 : Nat) : Int) = (x.2 : Int) - 1 - (x.1 : Int) by omega]
          exact this
      case measure => simp [intOf]

end Go.Proofs.YtkkojhkglcigmaaDoor
