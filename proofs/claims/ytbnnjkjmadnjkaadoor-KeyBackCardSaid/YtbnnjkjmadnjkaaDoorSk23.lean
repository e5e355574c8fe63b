/-
  The walk through head.Split.
  What was written as a number's shortest bytes is read as that number: plain numbers and lists.
-/
import Derived.Test.YtbnnjkjmadnjkaaDoorHSplit
import Derived.Test.YtbnnjkjmadnjkaaDoorSk0
namespace Go.Proofs.YtbnnjkjmadnjkaaDoor
section
open Go.RowKit
set_option linter.unusedVariables false

/-- What Split answers. -/
def SplitGave (w : World) (l : List UInt8) (own : Int) (e : Ending) (w' : World) : Prop :=
  Below w.heap.size w w' ∧ ∃ p n s2, PS l own p n s2 ∧
    match (hTakeS l (needS s2 (decide ((20 : Int) ≤ (n : Int)))) n).2 with
    | none => e = .returned (.tuple #[.agg (partC 0 none 0 0 none 0 0 none 0 0 0 none 0 0), .slice none 0 0, .int .i64 2])
    | some t => ∃ a A1 c1 A2 c2 A3 c3 A4 A5, t ≤ l.length ∧ s2 = some a ∧
        e = .returned (.tuple #[.agg (partC p.sp A1 p.dst.length c1 A2 p.src.length c2 A3 p.tok.length c3 a A4 t t), .slice A5 (l.length - t) (l.length - t), .int .i64 0]) ∧
        Sl w' w'.heap.size A1 p.dst ∧ Sl w' w'.heap.size A2 p.src ∧ Sl w' w'.heap.size A3 p.tok ∧ Sl w' w'.heap.size A4 (l.take t) ∧ Sl w' w'.heap.size A5 (l.drop t)

theorem results_ctt {P : Program} {fn : Func} {a b c : Tmp} {ta : TypeId} (h : fn.results = #[.cell a ta, .tmp b, .tmp c]) (tmps : Array Value) (w : World) (pa : Addr) (va : Value)
    (ha : tmps.getD a undef = .pointer (some pa)) (la : (loadVar ta pa).run P w = .ok va w) : (results fn tmps).run P w = .ok (.tuple #[va, tmps.getD b undef, tmps.getD c undef]) w := by
  have ha' : tmps[a]?.getD undef = .pointer (some pa) := by simpa using ha
  simp [results, h, ha', asAddr, la]

theorem cut_sl {w : World} {lo : Nat} (A : Option Addr) (len c a n : Nat) (l : List UInt8) (i j : Int) (hi : i = (a : Int)) (hj : j = ((a + n : Nat) : Int)) (hl : l.length = len) (hs : Sy w lo A (l.map cell8)) (han : a + n ≤ len) (hc : len ≤ c) (hm : c ≤ maxLen) :
    ∃ A', (∀ w', Calls Tryd.prog 23 #[.slice A len c, .int .i64 i, .int .i64 j] w' fun e w'' => e = .returned (.slice A' n n) ∧ w'' = w') ∧ Sy w lo A' (((l.drop a).take n).map cell8) := by
  unfold maxLen at hm
  refine ⟨if n = 0 then none else A.map fun x => x.add a, fun w' => (cut_any A len c a (a + n) i j w' hi hj (by omega) han hc (by omega)).mono fun e w'' h => ⟨?_, h.2.symm⟩, ?_⟩
  · rw [h.1]
    by_cases h0 : n = 0
    · subst h0
      simp
    · rw [if_neg (by omega), if_neg h0, show a + n - a = n by omega]
  · by_cases h0 : n = 0
    · subst h0
      simpa using Sy.nil w lo _
    · rw [if_neg h0]
      intro hn
      obtain ⟨b, off, rfl, h1, h2, hcell⟩ := hs (by rintro h; rw [List.map_eq_nil_iff] at h; subst h; simp at hn)
      refine ⟨b, off + a, by simp [Addr.add], h1, h2, fun k v hv => ?_⟩
      rw [Nat.add_assoc]
      refine hcell (a + k) v ?_
      rw [List.map_take, List.getElem?_take] at hv
      split at hv
      · rw [← hv, List.map_drop, List.getElem?_drop]
      · cases hv

theorem takeS_some {l : List UInt8} {s : Option Nat} {n t : Nat} (h : (hTakeS l s n).2 = some t) : ∃ a, s = some a ∧ n ≤ l.length - a ∧ t = a + n := by
  unfold hTakeS at h
  split at h
  · simp at h
  · rename_i a
    split at h
    · simp only [Option.some.injEq] at h
      exact ⟨a, rfl, by assumption, h.symm⟩
    · simp at h

theorem needS_some {s : Option Nat} {b : Bool} {a : Nat} (h : needS s b = some a) : s = some a ∧ b = true := by
  unfold needS at h
  cases b
  · simp at h
  · exact ⟨by simpa using h, rfl⟩

set_option maxRecDepth 10000 in
set_option maxHeartbeats 1600000 in
theorem split_any (own : Int) (h64 : -9223372036854775808 ≤ own ∧ own ≤ 9223372036854775807) (l : List UInt8) (A : Option Addr) (len c : Nat) (w : World) (hl : l.length = len) (hr : Sl w w.heap.size A l) (hc : len ≤ c) (hm : c ≤ maxLen) (hlen : len ≤ 1048576) :
    Calls Tryd.prog 7 #[.slice A len c, .int .i64 own] w (SplitGave w l own) := by
  have hz0 : (w.alloc (.cells (partC 0 none 0 0 none 0 0 none 0 0 0 none 0 0) 37)).heap.size = w.heap.size + 1 := by simp
  have hb1 : Below w.heap.size w ((w.alloc (.cells (partC 0 none 0 0 none 0 0 none 0 0 0 none 0 0) 37)).alloc (.cells (rdC A len c 0 false) 61)) := ((Below.refl _ _).alloc (Nat.le_refl _) _).alloc (by simp) _
  have hP1 : Wh ((w.alloc (.cells (partC 0 none 0 0 none 0 0 none 0 0 0 none 0 0) 37)).alloc (.cells (rdC A len c 0 false) 61)) w.heap.size 37 (partC 0 none 0 0 none 0 0 none 0 0 0 none 0 0) := (Wh.new w _ _).alloc _
  have hW1 : Wh ((w.alloc (.cells (partC 0 none 0 0 none 0 0 none 0 0 0 none 0 0) 37)).alloc (.cells (rdC A len c 0 false) 61)) (w.heap.size + 1) 61 (rdC A len c 0 false) := by
    have := Wh.new (w.alloc (.cells (partC 0 none 0 0 none 0 0 none 0 0 0 none 0 0) 37)) 61 (rdC A len c 0 false)
    rw [hz0] at this
    exact this
  have hR1 : Rd ((w.alloc (.cells (partC 0 none 0 0 none 0 0 none 0 0 0 none 0 0) 37)).alloc (.cells (rdC A len c 0 false) 61)) w.heap.size (w.heap.size + 1) l A len c 0 false (some 0) :=
    ⟨hW1, hl, Nat.zero_le _, hc, hm, hr.below hb1, Nat.le_succ _, rfl⟩
  have hz1 : ((w.alloc (.cells (partC 0 none 0 0 none 0 0 none 0 0 0 none 0 0) 37)).alloc (.cells (rdC A len c 0 false) 61)).heap.size = w.heap.size + 2 := by simp
  have HB1 := Lib.hid hb1
  have HP1 := Lib.hid hP1
  have HL := Lib.hid hl
  have HSR := Lib.hid hr
  have HC := Lib.hid (part_any own h64 hR1 hlen)
  clear hb1 hP1 hW1 hR1 hl hr hz0
  go_enter Tryd.func7, Tryd.ntmps7
  go_wp2_with fail
  change Calls _ _ _ ((w.alloc (.cells (partC 0 none 0 0 none 0 0 none 0 0 0 none 0 0) 37)).alloc (.cells (rdC A len c 0 false) 61)) _
  generalize (w.alloc (.cells (partC 0 none 0 0 none 0 0 none 0 0 0 none 0 0) 37)).alloc (.cells (rdC A len c 0 false) 61) = w1 at *
  refine HC.out.mono ?_
  rintro e w2 ⟨p, n, s2, A1, c1, A2, c2, A3, c3, at1, at2, bad2, hps, hat, rfl, hs1, hs2, hs3, hr2, hg2⟩
  have HPS := Lib.hid hps
  have HAT := Lib.hid hat
  have hp2 := HP1.out.grown hg2 (by simp)
  have e0 := hp2.cell 0
  have e1 := hp2.cell 1
  have e2 := hp2.cell 2
  have e3 := hp2.cell 3
  have e4 := hp2.cell 4
  have e5 := hp2.cell 5
  simp only [partC, List.getElem?_toArray, List.getElem?_cons_zero, List.getElem?_cons_succ] at e0 e1 e2 e3 e4 e5
  have f0 := hp2.frozen 0
  have f1 := hp2.frozen 1
  have f2 := hp2.frozen 2
  have f3 := hp2.frozen 3
  have f4 := hp2.frozen 4
  have f5 := hp2.frozen 5
  have HP3 := Lib.hid (hp2.put6 (sp' := p.sp) (A1' := A1) (n1' := p.dst.length) (c1' := c1) (A2' := A2) (n2' := p.src.length) (c2' := c2) (A3' := A3) (n3' := p.tok.length) (c3' := c3) (a' := at1) (A4' := none) (n4' := 0) (c4' := 0))
  have HR3 := Lib.hid (hr2.far6 (g := w.heap.size) (by omega) (Nat.le_refl _) (.int .u8 (p.sp : Int)) (.slice A1 p.dst.length c1) (.slice A2 p.src.length c2) (.slice A3 p.tok.length c3) (.int .i64 (at1 : Int)) (.slice none 0 0))
  have HB3 : Hid (Below w.heap.size w ((((((w2.setCell ⟨w.heap.size, 0, none⟩ (.int .u8 (p.sp : Int))).setCell ⟨w.heap.size, 1, none⟩ (.slice A1 p.dst.length c1)).setCell ⟨w.heap.size, 2, none⟩ (.slice A2 p.src.length c2)).setCell ⟨w.heap.size, 3, none⟩ (.slice A3 p.tok.length c3)).setCell ⟨w.heap.size, 4, none⟩ (.int .i64 (at1 : Int))).setCell ⟨w.heap.size, 5, none⟩ (.slice none 0 0))) := ((((((HB1.out.grown hg2 (by omega) (fun k hk => by obtain rfl := Option.some.inj hk; omega)).setCell (p := ⟨w.heap.size, 0, none⟩) (Nat.le_refl _) _).setCell (p := ⟨w.heap.size, 1, none⟩) (Nat.le_refl _) _).setCell (p := ⟨w.heap.size, 2, none⟩) (Nat.le_refl _) _).setCell (p := ⟨w.heap.size, 3, none⟩) (Nat.le_refl _) _).setCell (p := ⟨w.heap.size, 4, none⟩) (Nat.le_refl _) _).setCell (p := ⟨w.heap.size, 5, none⟩) (Nat.le_refl _) _
  have HS1 := Lib.hid (hs1.put6 (g := w.heap.size) (by omega) (.int .u8 (p.sp : Int)) (.slice A1 p.dst.length c1) (.slice A2 p.src.length c2) (.slice A3 p.tok.length c3) (.int .i64 (at1 : Int)) (.slice none 0 0))
  have HS2 := Lib.hid (hs2.put6 (g := w.heap.size) (by omega) (.int .u8 (p.sp : Int)) (.slice A1 p.dst.length c1) (.slice A2 p.src.length c2) (.slice A3 p.tok.length c3) (.int .i64 (at1 : Int)) (.slice none 0 0))
  have HS3 := Lib.hid (hs3.put6 (g := w.heap.size) (by omega) (.int .u8 (p.sp : Int)) (.slice A1 p.dst.length c1) (.slice A2 p.src.length c2) (.slice A3 p.tok.length c3) (.int .i64 (at1 : Int)) (.slice none 0 0))
  have hz2 := hg2.size
  have hz3 : ((((((w2.setCell ⟨w.heap.size, 0, none⟩ (.int .u8 (p.sp : Int))).setCell ⟨w.heap.size, 1, none⟩ (.slice A1 p.dst.length c1)).setCell ⟨w.heap.size, 2, none⟩ (.slice A2 p.src.length c2)).setCell ⟨w.heap.size, 3, none⟩ (.slice A3 p.tok.length c3)).setCell ⟨w.heap.size, 4, none⟩ (.int .i64 (at1 : Int))).setCell ⟨w.heap.size, 5, none⟩ (.slice none 0 0)).heap.size = w2.heap.size := by simp [World.setCell]
  clear hps hat hp2 hs1 hs2 hs3 hr2 hg2 HC HP1 HB1
  unfold partC
  go_upto_region 3 with fail
  clear e0 e1 e2 e3 e4 e5 f0 f1 f2 f3 f4 f5
  change Code.wp _ _ _ _ ((((((w2.setCell ⟨w.heap.size, 0, none⟩ (.int .u8 (p.sp : Int))).setCell ⟨w.heap.size, 1, none⟩ (.slice A1 p.dst.length c1)).setCell ⟨w.heap.size, 2, none⟩ (.slice A2 p.src.length c2)).setCell ⟨w.heap.size, 3, none⟩ (.slice A3 p.tok.length c3)).setCell ⟨w.heap.size, 4, none⟩ (.int .i64 (at1 : Int))).setCell ⟨w.heap.size, 5, none⟩ (.slice none 0 0))
  generalize ((((((w2.setCell ⟨w.heap.size, 0, none⟩ (.int .u8 (p.sp : Int))).setCell ⟨w.heap.size, 1, none⟩ (.slice A1 p.dst.length c1)).setCell ⟨w.heap.size, 2, none⟩ (.slice A2 p.src.length c2)).setCell ⟨w.heap.size, 3, none⟩ (.slice A3 p.tok.length c3)).setCell ⟨w.heap.size, 4, none⟩ (.int .i64 (at1 : Int))).setCell ⟨w.heap.size, 5, none⟩ (.slice none 0 0)) = w3 at *
  have h1 := HR3.out.c1
  have h2 := HR3.out.c2
  have e0 := HP3.out.cell 0
  have e1 := HP3.out.cell 1
  have e2 := HP3.out.cell 2
  have e3 := HP3.out.cell 3
  have e4 := HP3.out.cell 4
  have e5 := HP3.out.cell 5
  simp only [partC, List.getElem?_toArray, List.getElem?_cons_zero, List.getElem?_cons_succ] at e0 e1 e2 e3 e4 e5
  have f0 := HP3.out.frozen 0
  have f1 := HP3.out.frozen 1
  have f2 := HP3.out.frozen 2
  have f3 := HP3.out.frozen 3
  have f4 := HP3.out.frozen 4
  have f5 := HP3.out.frozen 5
  have HST := Lib.hid HR3.out.st
  cases bad2
  rotate_left 1
  · go_wp2
    have HWe := Lib.hid (HP3.out.put6 (sp' := 0) (A1' := none) (n1' := 0) (c1' := 0) (A2' := none) (n2' := 0) (c2' := 0) (A3' := none) (n3' := 0) (c3' := 0) (a' := 0) (A4' := none) (n4' := 0) (c4' := 0))
    refine bodyPost_ret (results_ctt Tryd.results7 _ _ ⟨w.heap.size, 0, none⟩ _ rfl (load_part HWe.out rfl)) rfl ?_
    refine ⟨(((((HB3.out.setCell (p := ⟨w.heap.size, 0, none⟩) (Nat.le_refl _) _).setCell (p := ⟨w.heap.size, 1, none⟩) (Nat.le_refl _) _).setCell (p := ⟨w.heap.size, 2, none⟩) (Nat.le_refl _) _).setCell (p := ⟨w.heap.size, 3, none⟩) (Nat.le_refl _) _).setCell (p := ⟨w.heap.size, 4, none⟩) (Nat.le_refl _) _).setCell (p := ⟨w.heap.size, 5, none⟩) (Nat.le_refl _) _, p, n, s2, HPS.out, ?_⟩
    rw [HST.out]
    exact rfl
  · have ha := HR3.out.ha
    have HCL := Lib.hid (clone_any A len c l w3 w.heap.size HL.out (HSR.out.below HB3.out) HB3.out.size (by omega))
    go_wp2_with fail
    refine HCL.out.mono ?_
    rintro e w4 ⟨A6, c6, rfl, hc6, hm6, hown, hb4⟩
    have HS6 := Lib.hid (Sy.of_own hown (Nat.le_refl _))
    have HLL : Hid (l.length = len) := HL.out
    rw [HL.out] at hc6 ⊢
    have hR4 := HR3.out.below hb4
    have hP4 := HP3.out.below hb4 (by have := HP3.out.lt; omega)
    have hz4 := hb4.size
    have HB4 := Lib.hid (HB3.out.trans (hb4.mono (by omega)))
    have HS14 := Lib.hid (HS1.out.below hb4)
    have HS24 := Lib.hid (HS2.out.below hb4)
    have HS34 := Lib.hid (HS3.out.below hb4)
    obtain ⟨A4, hq4, hs4⟩ := cut_sl (w := w4) A6 len c6 0 at2 l 0 (at2 : Int) rfl (by omega) HL.out HS6.out (by omega) hc6 hm6
    obtain ⟨A5, hq5, hs5⟩ := cut_sl (w := w4) A6 len c6 at2 (len - at2) l (at2 : Int) (len : Int) rfl (by omega) HL.out HS6.out (by omega) hc6 hm6
    have HQ4 := Lib.hid hq4
    have HQ5 := Lib.hid hq5
    have h1 := hR4.c1
    have e5 := hP4.cell 5
    have f5 := hP4.frozen 5
    simp only [partC, List.getElem?_toArray, List.getElem?_cons_zero, List.getElem?_cons_succ] at e5
    have HR5 := Lib.hid (hR4.grown (row := some w.heap.size) (grown_set w4 w.heap.size 5 (.slice A4 at2 at2)) (by simp) (fun k hk => by obtain rfl := Option.some.inj hk; exact Nat.le_refl _))
    have HP5 := Lib.hid (hP4.put 5 (.slice A4 at2 at2))
    have HB5 := Lib.hid (HB4.out.setCell (p := ⟨w.heap.size, 5, none⟩) (Nat.le_refl _) (.slice A4 at2 at2))
    have HS15 := Lib.hid (HS14.out.put (g := w.heap.size) (by omega) 5 (.slice A4 at2 at2))
    have HS25 := Lib.hid (HS24.out.put (g := w.heap.size) (by omega) 5 (.slice A4 at2 at2))
    have HS35 := Lib.hid (HS34.out.put (g := w.heap.size) (by omega) 5 (.slice A4 at2 at2))
    have HS45 := Lib.hid (hs4.put (g := w.heap.size) (by omega) 5 (.slice A4 at2 at2))
    have HS55 := Lib.hid (hs5.put (g := w.heap.size) (by omega) 5 (.slice A4 at2 at2))
    clear hq4 hq5 hs4 hs5 hR4 hP4 hown hb4 HS14 HS24 HS34 HB4 HR3 HP3 HB3 HS1 HS2 HS3 HCL e0 e1 e2 e3 e4 f0 f1 f2 f3 f4
    go_upto_region 6 with fail
    go_upto_region 7 with (go_at_call 23; refine (HQ4.out _).mono ?_; rintro e w' ⟨rfl, hw'⟩; replace hw' := hw'.symm; subst hw')
    change Hid (Wh (w4.setCell ⟨w.heap.size, 5, none⟩ (.slice A4 at2 at2)) w.heap.size 37 (partC p.sp A1 p.dst.length c1 A2 p.src.length c2 A3 p.tok.length c3 at1 A4 at2 at2)) at HP5
    have hz5 : (w4.setCell ⟨w.heap.size, 5, none⟩ (.slice A4 at2 at2)).heap.size = w4.heap.size := by simp [World.setCell]
    generalize w4.setCell ⟨w.heap.size, 5, none⟩ (.slice A4 at2 at2) = w5 at *
    clear h1 e5 f5
    have h1 := HR5.out.c1
    have e0 := HP5.out.cell 0
    have e1 := HP5.out.cell 1
    have e2 := HP5.out.cell 2
    have e3 := HP5.out.cell 3
    have e4 := HP5.out.cell 4
    have e5 := HP5.out.cell 5
    simp only [partC, List.getElem?_toArray, List.getElem?_cons_zero, List.getElem?_cons_succ] at e0 e1 e2 e3 e4 e5
    have f0 := HP5.out.frozen 0
    have f1 := HP5.out.frozen 1
    have f2 := HP5.out.frozen 2
    have f3 := HP5.out.frozen 3
    have f4 := HP5.out.frozen 4
    have f5 := HP5.out.frozen 5
    go_region_with (go_at_call 23; refine (HQ5.out _).mono ?_; rintro e w' ⟨rfl, hw'⟩; subst hw')
    all_goals
      go_wp2
      have hP6 := HP5.out.put6 (sp' := p.sp) (A1' := A1) (n1' := p.dst.length) (c1' := c1) (A2' := A2) (n2' := p.src.length) (c2' := c2) (A3' := A3) (n3' := p.tok.length) (c3' := c3) (a' := at1) (A4' := A4) (n4' := at2) (c4' := at2)
      have HWe := Lib.hid (hP6.below (Below.refl _ _).drew hP6.lt)
      have hln : len = l.length := HL.out.symm
      refine bodyPost_ret (results_ctt Tryd.results7 _ _ ⟨w.heap.size, 0, none⟩ _ rfl (load_part HWe.out rfl)) rfl ?_
      have hst : (hTakeS l (needS s2 (decide ((20 : Int) ≤ (n : Int)))) n).2 = some at2 := HST.out
      obtain ⟨a, hsa, _, hta⟩ := takeS_some hst
      obtain ⟨hsa, _⟩ := needS_some hsa
      obtain rfl := HAT.out a hsa
      have hgw : w.heap.size < w1.heap.size := by omega
      have hgw3 : w.heap.size < w3.heap.size := by omega
      refine ⟨((((((HB5.out.setCell (p := ⟨w.heap.size, 0, none⟩) (Nat.le_refl _) _).setCell (p := ⟨w.heap.size, 1, none⟩) (Nat.le_refl _) _).setCell (p := ⟨w.heap.size, 2, none⟩) (Nat.le_refl _) _).setCell (p := ⟨w.heap.size, 3, none⟩) (Nat.le_refl _) _).setCell (p := ⟨w.heap.size, 4, none⟩) (Nat.le_refl _) _).setCell (p := ⟨w.heap.size, 5, none⟩) (Nat.le_refl _) _).drew, p, n, s2, HPS.out, ?_⟩
      rw [hst]
      refine ⟨at1, A1, c1, A2, c2, A3, c3, A4, A5, by omega, hsa, by rw [← hln]; rfl, (HS15.out.put6 hgw (.int .u8 (p.sp : Int)) (.slice A1 p.dst.length c1) (.slice A2 p.src.length c2) (.slice A3 p.tok.length c3) (.int .i64 (at1 : Int)) (.slice A4 at2 at2)).drew.sv, (HS25.out.put6 hgw (.int .u8 (p.sp : Int)) (.slice A1 p.dst.length c1) (.slice A2 p.src.length c2) (.slice A3 p.tok.length c3) (.int .i64 (at1 : Int)) (.slice A4 at2 at2)).drew.sv, (HS35.out.put6 hgw (.int .u8 (p.sp : Int)) (.slice A1 p.dst.length c1) (.slice A2 p.src.length c2) (.slice A3 p.tok.length c3) (.int .i64 (at1 : Int)) (.slice A4 at2 at2)).drew.sv, ?_, ?_⟩
      · have h := (HS45.out.put6 hgw3 (.int .u8 (p.sp : Int)) (.slice A1 p.dst.length c1) (.slice A2 p.src.length c2) (.slice A3 p.tok.length c3) (.int .i64 (at1 : Int)) (.slice A4 at2 at2)).drew.sv
        rw [List.drop_zero] at h
        exact h
      · have h := (HS55.out.put6 hgw3 (.int .u8 (p.sp : Int)) (.slice A1 p.dst.length c1) (.slice A2 p.src.length c2) (.slice A3 p.tok.length c3) (.int .i64 (at1 : Int)) (.slice A4 at2 at2)).drew.sv
        rw [List.take_of_length_le (by rw [List.length_drop, HL.out]; exact Nat.le_refl _)] at h
        exact h
end

section
theorem val_be (N : Nat) : ∀ k a : Nat, val a (be N k) = a * 256 ^ k + N % 256 ^ k := by
  intro k
  induction k with
  | zero => intro a; simp [be, val, Nat.mod_one]
  | succ k ih =>
    intro a
    show val (256 * a + (UInt8.ofNat (N / 256 ^ k % 256)).toNat) (be N k) = _
    rw [ih, be_head, Nat.mod_pow_succ, Nat.add_mul, Nat.pow_succ, Nat.mul_comm (256 ^ k) 256, ← Nat.mul_assoc, Nat.mul_comm a 256, Nat.mul_comm (N / 256 ^ k % 256)]
    omega

theorem be_ne {N k : Nat} (h : 1 ≤ k) : be N k = UInt8.ofNat (N / 256 ^ (k - 1) % 256) :: be N (k - 1) := by
  obtain ⟨j, rfl⟩ : ∃ j, k = j + 1 := ⟨k - 1, by omega⟩
  rfl

theorem lg_pow {n : Nat} (h : n ≤ 4611686018427387903) : 2 ^ lg n = szN n := by
  rcases lg_cases h with ⟨h1, h2⟩ | ⟨h1, h2⟩ | ⟨h1, h2⟩ | ⟨h1, h2⟩ <;> rw [h1, h2]

/-- The head of a number's shortest bytes. -/
theorem enc_head {n : Nat} (h : n ≤ 4611686018427387903) : ∃ x : UInt8, enc n = x :: be n (szN n - 1) ∧ x.toNat % 64 = n / 256 ^ (szN n - 1) ∧ cls x = szN n := by
  have hp := szN_pos h
  have hlt := szN_lt h
  have hl3 : lg n ≤ 3 := by rcases lg_cases h with ⟨_, h2⟩ | ⟨_, h2⟩ | ⟨_, h2⟩ | ⟨_, h2⟩ <;> omega
  have hs : szN n = (szN n - 1) + 1 := by omega
  have h64 : n < 64 * 256 ^ (szN n - 1) := by
    rw [show 8 * szN n - 2 = 6 + 8 * (szN n - 1) by omega, Nat.pow_add, Nat.pow_mul] at hlt
    exact hlt
  have hc := be_class n (szN n - 1) (lg n) h64 hl3
  rw [← hs] at hc
  have hd : n / 256 ^ (szN n - 1) < 64 := by rw [Nat.div_lt_iff_lt_mul (Nat.pow_pos (by omega))]; exact h64
  rw [Nat.mod_eq_of_lt (show n / 256 ^ (szN n - 1) < 256 by omega)] at hc
  have ht : (UInt8.ofNat (n / 256 ^ (szN n - 1) + 64 * lg n)).toNat = n / 256 ^ (szN n - 1) + 64 * lg n := by
    rw [UInt8.toNat_ofNat', Nat.mod_eq_of_lt (by omega)]
  have key : ∀ q c : Nat, q < 64 → (q + 64 * c) % 64 = q ∧ (q + 64 * c) / 64 = c := by intro q c hq; omega
  refine ⟨_, hc.symm, by rw [ht]; exact (key _ _ hd).1, ?_⟩
  unfold cls
  rw [ht, (key _ _ hd).2]
  exact lg_pow h

/-- What was appended is taken as it was, whatever stands behind. -/
theorem tk_enc {n : Nat} (h : n ≤ 4611686018427387903) (r : List UInt8) : tk (enc n ++ r) = some (n, szN n) := by
  obtain ⟨x, he, hx, hc⟩ := enc_head h
  have hp := szN_pos h
  have hl : (be n (szN n - 1)).length = szN n - 1 := be_length _ _
  rw [he, List.cons_append, tk_long (by rw [List.length_append, hl]; omega), hc, hx, List.take_append_of_le_length (by omega), List.take_of_length_le (by omega), val_be]
  congr 2
  rw [Nat.mul_comm]
  exact Nat.div_add_mod n _

theorem encs_drop (l : List Nat) (k n : Nat) (h : l[k]? = some n) : encs (l.drop k) = enc n ++ encs (l.drop (k + 1)) := by
  obtain ⟨hk, he⟩ := List.getElem?_eq_some_iff.1 h
  rw [List.drop_eq_getElem_cons hk, he]
  rfl

/-- Cut short it is none. -/
theorem tk_cut {n : Nat} (h : n ≤ 4611686018427387903) (r : List UInt8) : tk ((enc n ++ r).take (szN n - 1)) = none := by
  obtain ⟨x, he, hx, hc⟩ := enc_head h
  have hp := szN_pos h
  have hl : (be n (szN n - 1)).length = szN n - 1 := be_length _ _
  by_cases h1 : szN n = 1
  · rw [h1]
    rfl
  · rw [he, List.cons_append, show szN n - 1 = (szN n - 2) + 1 by omega, List.take_succ_cons]
    refine tk_short ?_
    rw [List.length_take, List.length_append, hc]
    omega

/-- What is taken has no shorter bytes than it has. -/
theorem tk_shortest {l : List UInt8} {n k : Nat} (h : tk l = some (n, k)) : szN n ≤ k ∧ n ≤ 4611686018427387903 := by
  obtain ⟨x, t, rfl, rfl, hs, rfl⟩ := tk_some h
  have hv := val_lt (t.take (cls x - 1)) (x.toNat % 64) 64 (by omega)
  have ht : (t.take (cls x - 1)).length = cls x - 1 := by rw [List.length_take]; omega
  rw [ht] at hv
  generalize val (x.toNat % 64) (t.take (cls x - 1)) = n at *
  rcases cls_cases x with ⟨_, hc⟩ | ⟨_, hc⟩ | ⟨_, hc⟩ | ⟨_, hc⟩ <;> rw [hc] at hv ⊢
  · have h1 : n < 64 := hv
    exact ⟨by rw [szN_1 (by omega)]; omega, by omega⟩
  · have h1 : n < 16384 := hv
    refine ⟨?_, by omega⟩
    rcases szN_cases n with ⟨_, e⟩ | ⟨_, _, e⟩ | ⟨_, _, e⟩ | ⟨_, _, e⟩ | ⟨_, e⟩ <;> omega
  · have h1 : n < 1073741824 := hv
    refine ⟨?_, by omega⟩
    rcases szN_cases n with ⟨_, e⟩ | ⟨_, _, e⟩ | ⟨_, _, e⟩ | ⟨_, _, e⟩ | ⟨_, e⟩ <;> omega
  · have h1 : n < 4611686018427387904 := hv
    exact ⟨szN_le n, by omega⟩
end
end Go.Proofs.YtbnnjkjmadnjkaaDoor
