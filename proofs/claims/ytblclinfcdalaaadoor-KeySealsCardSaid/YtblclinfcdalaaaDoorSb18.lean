/-
  The walk through head.Split.
  What was written as a number's shortest bytes is read as that number: plain numbers and lists.
  Packets' heads in plain lists of bytes: a head's bytes, and what the reader's steps tell of them, whole or cut.
-/
import Derived.Test.YtblclinfcdalaaaDoorHSplit
import Derived.Test.YtblclinfcdalaaaDoorSb0
import Derived.Lib.Strings
namespace Go.Proofs.YtblclinfcdalaaaDoor
section
open Go.RowKit
set_option linter.unusedVariables false

/-- What Split answers. -/
def SplitGave (w : World) (l : List UInt8) (own : Int) (e : Ending) (w' : World) : Prop :=
  Below w.heap.size w w' ∧ ∃ p n s2, PS l own p n s2 ∧
    match (hTakeS l (needS s2 (decide ((20 : Int) ≤ (n : Int)))) n).2 with
    | none => e = .returned (.tuple #[.agg (partC 0 none 0 0 none 0 0 none 0 0 0 none 0 0), .slice none 0 0, .int .i64 2])
    | some t => ∃ a A1 c1 A2 c2 A3 c3 A4 A5, t ≤ l.length ∧ s2 = some a ∧
        e = .returned (.tuple #[.agg (partC p.sp A1 p.dst.length c1 A2 p.src.length c2 A3 p.tok.length c3 a A4 t t), .slice A5 (l.length - t) (l.length - t), .int .i64 0]) ∧
        Sl w' w'.heap.size A1 p.dst ∧ Sl w' w'.heap.size A2 p.src ∧ Sl w' w'.heap.size A3 p.tok ∧ Sl w' w'.heap.size A4 (l.take t) ∧ Sl w' w'.heap.size A5 (l.drop t)

theorem results_ctt {P : Program} {fn : Func} {a b c : Tmp} {ta : TypeId} (h : fn.results = #[.cell a ta, .tmp b, .tmp c]) (tmps : Array Value) (w : World) (pa : Addr) (va : Value)
    (ha : tmps.getD a undef = .pointer (some pa)) (la : (loadVar ta pa).run P w = .ok va w) : (results fn tmps).run P w = .ok (.tuple #[va, tmps.getD b undef, tmps.getD c undef]) w := by
  have ha' : tmps[a]?.getD undef = .pointer (some pa) := by simpa using ha
  simp [results, h, ha', asAddr, la]

theorem cut_sl {w : World} {lo : Nat} (A : Option Addr) (len c a n : Nat) (l : List UInt8) (i j : Int) (hi : i = (a : Int)) (hj : j = ((a + n : Nat) : Int)) (hl : l.length = len) (hs : Sy w lo A (l.map cell8)) (han : a + n ≤ len) (hc : len ≤ c) (hm : c ≤ maxLen) :
    ∃ A', (∀ w', Calls Tryd.prog 48 #[.slice A len c, .int .i64 i, .int .i64 j] w' fun e w'' => e = .returned (.slice A' n n) ∧ w'' = w') ∧ Sy w lo A' (((l.drop a).take n).map cell8) := by
  unfold maxLen at hm
  refine ⟨if n = 0 then none else A.map fun x => x.add a, fun w' => (cut_any A len c a (a + n) i j w' hi hj (by omega) han hc (by omega)).mono fun e w'' h => ⟨?_, h.2.symm⟩, ?_⟩
  · rw [h.1]
    by_cases h0 : n = 0
    · subst h0
      simp
    · rw [if_neg (by omega), if_neg h0, show a + n - a = n by omega]
  · by_cases h0 : n = 0
    · subst h0
      simpa using Sy.nil w lo _
    · rw [if_neg h0]
      intro hn
      obtain ⟨b, off, rfl, h1, h2, hcell⟩ := hs (by rintro h; rw [List.map_eq_nil_iff] at h; subst h; simp at hn)
      refine ⟨b, off + a, by simp [Addr.add], h1, h2, fun k v hv => ?_⟩
      rw [Nat.add_assoc]
      refine hcell (a + k) v ?_
      rw [List.map_take, List.getElem?_take] at hv
      split at hv
      · rw [← hv, List.map_drop, List.getElem?_drop]
      · cases hv

theorem takeS_some {l : List UInt8} {s : Option Nat} {n t : Nat} (h : (hTakeS l s n).2 = some t) : ∃ a, s = some a ∧ n ≤ l.length - a ∧ t = a + n := by
  unfold hTakeS at h
  split at h
  · simp at h
  · rename_i a
    split at h
    · simp only [Option.some.injEq] at h
      exact ⟨a, rfl, by assumption, h.symm⟩
    · simp at h

theorem needS_some {s : Option Nat} {b : Bool} {a : Nat} (h : needS s b = some a) : s = some a ∧ b = true := by
  unfold needS at h
  cases b
  · simp at h
  · exact ⟨by simpa using h, rfl⟩

set_option maxRecDepth 10000 in
set_option maxHeartbeats 1600000 in
theorem split_any (own : Int) (h64 : -9223372036854775808 ≤ own ∧ own ≤ 9223372036854775807) (l : List UInt8) (A : Option Addr) (len c : Nat) (w : World) (hl : l.length = len) (hr : Sl w w.heap.size A l) (hc : len ≤ c) (hm : c ≤ maxLen) (hlen : len ≤ 1048576) :
    Calls Tryd.prog 18 #[.slice A len c, .int .i64 own] w (SplitGave w l own) := by
  have hz0 : (w.alloc (.cells (partC 0 none 0 0 none 0 0 none 0 0 0 none 0 0) 46)).heap.size = w.heap.size + 1 := by simp
  have hb1 : Below w.heap.size w ((w.alloc (.cells (partC 0 none 0 0 none 0 0 none 0 0 0 none 0 0) 46)).alloc (.cells (rdC A len c 0 false) 82)) := ((Below.refl _ _).alloc (Nat.le_refl _) _).alloc (by simp) _
  have hP1 : Wh ((w.alloc (.cells (partC 0 none 0 0 none 0 0 none 0 0 0 none 0 0) 46)).alloc (.cells (rdC A len c 0 false) 82)) w.heap.size 46 (partC 0 none 0 0 none 0 0 none 0 0 0 none 0 0) := (Wh.new w _ _).alloc _
  have hW1 : Wh ((w.alloc (.cells (partC 0 none 0 0 none 0 0 none 0 0 0 none 0 0) 46)).alloc (.cells (rdC A len c 0 false) 82)) (w.heap.size + 1) 82 (rdC A len c 0 false) := by
    have := Wh.new (w.alloc (.cells (partC 0 none 0 0 none 0 0 none 0 0 0 none 0 0) 46)) 82 (rdC A len c 0 false)
    rw [hz0] at this
    exact this
  have hR1 : Rd ((w.alloc (.cells (partC 0 none 0 0 none 0 0 none 0 0 0 none 0 0) 46)).alloc (.cells (rdC A len c 0 false) 82)) w.heap.size (w.heap.size + 1) l A len c 0 false (some 0) :=
    ⟨hW1, hl, Nat.zero_le _, hc, hm, hr.below hb1, Nat.le_succ _, rfl⟩
  have hz1 : ((w.alloc (.cells (partC 0 none 0 0 none 0 0 none 0 0 0 none 0 0) 46)).alloc (.cells (rdC A len c 0 false) 82)).heap.size = w.heap.size + 2 := by simp
  have HB1 := Lib.hid hb1
  have HP1 := Lib.hid hP1
  have HL := Lib.hid hl
  have HSR := Lib.hid hr
  have HC := Lib.hid (part_any own h64 hR1 hlen)
  clear hb1 hP1 hW1 hR1 hl hr hz0
  go_enter Tryd.func18, Tryd.ntmps18
  go_wp2_with fail
  change Calls _ _ _ ((w.alloc (.cells (partC 0 none 0 0 none 0 0 none 0 0 0 none 0 0) 46)).alloc (.cells (rdC A len c 0 false) 82)) _
  generalize (w.alloc (.cells (partC 0 none 0 0 none 0 0 none 0 0 0 none 0 0) 46)).alloc (.cells (rdC A len c 0 false) 82) = w1 at *
  refine HC.out.mono ?_
  rintro e w2 ⟨p, n, s2, A1, c1, A2, c2, A3, c3, at1, at2, bad2, hps, hat, rfl, hs1, hs2, hs3, hr2, hg2⟩
  have HPS := Lib.hid hps
  have HAT := Lib.hid hat
  have hp2 := HP1.out.grown hg2 (by simp)
  have e0 := hp2.cell 0
  have e1 := hp2.cell 1
  have e2 := hp2.cell 2
  have e3 := hp2.cell 3
  have e4 := hp2.cell 4
  have e5 := hp2.cell 5
  simp only [partC, List.getElem?_toArray, List.getElem?_cons_zero, List.getElem?_cons_succ] at e0 e1 e2 e3 e4 e5
  have f0 := hp2.frozen 0
  have f1 := hp2.frozen 1
  have f2 := hp2.frozen 2
  have f3 := hp2.frozen 3
  have f4 := hp2.frozen 4
  have f5 := hp2.frozen 5
  have HP3 := Lib.hid (hp2.put6 (sp' := p.sp) (A1' := A1) (n1' := p.dst.length) (c1' := c1) (A2' := A2) (n2' := p.src.length) (c2' := c2) (A3' := A3) (n3' := p.tok.length) (c3' := c3) (a' := at1) (A4' := none) (n4' := 0) (c4' := 0))
  have HR3 := Lib.hid (hr2.far6 (g := w.heap.size) (by omega) (Nat.le_refl _) (.int .u8 (p.sp : Int)) (.slice A1 p.dst.length c1) (.slice A2 p.src.length c2) (.slice A3 p.tok.length c3) (.int .i64 (at1 : Int)) (.slice none 0 0))
  have HB3 : Hid (Below w.heap.size w ((((((w2.setCell ⟨w.heap.size, 0, none⟩ (.int .u8 (p.sp : Int))).setCell ⟨w.heap.size, 1, none⟩ (.slice A1 p.dst.length c1)).setCell ⟨w.heap.size, 2, none⟩ (.slice A2 p.src.length c2)).setCell ⟨w.heap.size, 3, none⟩ (.slice A3 p.tok.length c3)).setCell ⟨w.heap.size, 4, none⟩ (.int .i64 (at1 : Int))).setCell ⟨w.heap.size, 5, none⟩ (.slice none 0 0))) := ((((((HB1.out.grown hg2 (by omega) (fun k hk => by obtain rfl := Option.some.inj hk; omega)).setCell (p := ⟨w.heap.size, 0, none⟩) (Nat.le_refl _) _).setCell (p := ⟨w.heap.size, 1, none⟩) (Nat.le_refl _) _).setCell (p := ⟨w.heap.size, 2, none⟩) (Nat.le_refl _) _).setCell (p := ⟨w.heap.size, 3, none⟩) (Nat.le_refl _) _).setCell (p := ⟨w.heap.size, 4, none⟩) (Nat.le_refl _) _).setCell (p := ⟨w.heap.size, 5, none⟩) (Nat.le_refl _) _
  have HS1 := Lib.hid (hs1.put6 (g := w.heap.size) (by omega) (.int .u8 (p.sp : Int)) (.slice A1 p.dst.length c1) (.slice A2 p.src.length c2) (.slice A3 p.tok.length c3) (.int .i64 (at1 : Int)) (.slice none 0 0))
  have HS2 := Lib.hid (hs2.put6 (g := w.heap.size) (by omega) (.int .u8 (p.sp : Int)) (.slice A1 p.dst.length c1) (.slice A2 p.src.length c2) (.slice A3 p.tok.length c3) (.int .i64 (at1 : Int)) (.slice none 0 0))
  have HS3 := Lib.hid (hs3.put6 (g := w.heap.size) (by omega) (.int .u8 (p.sp : Int)) (.slice A1 p.dst.length c1) (.slice A2 p.src.length c2) (.slice A3 p.tok.length c3) (.int .i64 (at1 : Int)) (.slice none 0 0))
  have hz2 := hg2.size
  have hz3 : ((((((w2.setCell ⟨w.heap.size, 0, none⟩ (.int .u8 (p.sp : Int))).setCell ⟨w.heap.size, 1, none⟩ (.slice A1 p.dst.length c1)).setCell ⟨w.heap.size, 2, none⟩ (.slice A2 p.src.length c2)).setCell ⟨w.heap.size, 3, none⟩ (.slice A3 p.tok.length c3)).setCell ⟨w.heap.size, 4, none⟩ (.int .i64 (at1 : Int))).setCell ⟨w.heap.size, 5, none⟩ (.slice none 0 0)).heap.size = w2.heap.size := by simp [World.setCell]
  clear hps hat hp2 hs1 hs2 hs3 hr2 hg2 HC HP1 HB1
  unfold partC
  go_upto_region 3 with fail
  clear e0 e1 e2 e3 e4 e5 f0 f1 f2 f3 f4 f5
  change Code.wp _ _ _ _ ((((((w2.setCell ⟨w.heap.size, 0, none⟩ (.int .u8 (p.sp : Int))).setCell ⟨w.heap.size, 1, none⟩ (.slice A1 p.dst.length c1)).setCell ⟨w.heap.size, 2, none⟩ (.slice A2 p.src.length c2)).setCell ⟨w.heap.size, 3, none⟩ (.slice A3 p.tok.length c3)).setCell ⟨w.heap.size, 4, none⟩ (.int .i64 (at1 : Int))).setCell ⟨w.heap.size, 5, none⟩ (.slice none 0 0))
  generalize ((((((w2.setCell ⟨w.heap.size, 0, none⟩ (.int .u8 (p.sp : Int))).setCell ⟨w.heap.size, 1, none⟩ (.slice A1 p.dst.length c1)).setCell ⟨w.heap.size, 2, none⟩ (.slice A2 p.src.length c2)).setCell ⟨w.heap.size, 3, none⟩ (.slice A3 p.tok.length c3)).setCell ⟨w.heap.size, 4, none⟩ (.int .i64 (at1 : Int))).setCell ⟨w.heap.size, 5, none⟩ (.slice none 0 0)) = w3 at *
  have h1 := HR3.out.c1
  have h2 := HR3.out.c2
  have e0 := HP3.out.cell 0
  have e1 := HP3.out.cell 1
  have e2 := HP3.out.cell 2
  have e3 := HP3.out.cell 3
  have e4 := HP3.out.cell 4
  have e5 := HP3.out.cell 5
  simp only [partC, List.getElem?_toArray, List.getElem?_cons_zero, List.getElem?_cons_succ] at e0 e1 e2 e3 e4 e5
  have f0 := HP3.out.frozen 0
  have f1 := HP3.out.frozen 1
  have f2 := HP3.out.frozen 2
  have f3 := HP3.out.frozen 3
  have f4 := HP3.out.frozen 4
  have f5 := HP3.out.frozen 5
  have HST := Lib.hid HR3.out.st
  cases bad2
  rotate_left 1
  · go_wp2
    have HWe := Lib.hid (HP3.out.put6 (sp' := 0) (A1' := none) (n1' := 0) (c1' := 0) (A2' := none) (n2' := 0) (c2' := 0) (A3' := none) (n3' := 0) (c3' := 0) (a' := 0) (A4' := none) (n4' := 0) (c4' := 0))
    refine bodyPost_ret (results_ctt Tryd.results18 _ _ ⟨w.heap.size, 0, none⟩ _ rfl (load_part HWe.out rfl)) rfl ?_
    refine ⟨(((((HB3.out.setCell (p := ⟨w.heap.size, 0, none⟩) (Nat.le_refl _) _).setCell (p := ⟨w.heap.size, 1, none⟩) (Nat.le_refl _) _).setCell (p := ⟨w.heap.size, 2, none⟩) (Nat.le_refl _) _).setCell (p := ⟨w.heap.size, 3, none⟩) (Nat.le_refl _) _).setCell (p := ⟨w.heap.size, 4, none⟩) (Nat.le_refl _) _).setCell (p := ⟨w.heap.size, 5, none⟩) (Nat.le_refl _) _, p, n, s2, HPS.out, ?_⟩
    rw [HST.out]
    exact rfl
  · have ha := HR3.out.ha
    have HCL := Lib.hid (clone_any A len c l w3 w.heap.size HL.out (HSR.out.below HB3.out) HB3.out.size (by omega))
    go_wp2_with fail
    refine HCL.out.mono ?_
    rintro e w4 ⟨A6, c6, rfl, hc6, hm6, hown, hb4⟩
    have HS6 := Lib.hid (Sy.of_own hown (Nat.le_refl _))
    have HLL : Hid (l.length = len) := HL.out
    rw [HL.out] at hc6 ⊢
    have hR4 := HR3.out.below hb4
    have hP4 := HP3.out.below hb4 (by have := HP3.out.lt; omega)
    have hz4 := hb4.size
    have HB4 := Lib.hid (HB3.out.trans (hb4.mono (by omega)))
    have HS14 := Lib.hid (HS1.out.below hb4)
    have HS24 := Lib.hid (HS2.out.below hb4)
    have HS34 := Lib.hid (HS3.out.below hb4)
    obtain ⟨A4, hq4, hs4⟩ := cut_sl (w := w4) A6 len c6 0 at2 l 0 (at2 : Int) rfl (by omega) HL.out HS6.out (by omega) hc6 hm6
    obtain ⟨A5, hq5, hs5⟩ := cut_sl (w := w4) A6 len c6 at2 (len - at2) l (at2 : Int) (len : Int) rfl (by omega) HL.out HS6.out (by omega) hc6 hm6
    have HQ4 := Lib.hid hq4
    have HQ5 := Lib.hid hq5
    have h1 := hR4.c1
    have e5 := hP4.cell 5
    have f5 := hP4.frozen 5
    simp only [partC, List.getElem?_toArray, List.getElem?_cons_zero, List.getElem?_cons_succ] at e5
    have HR5 := Lib.hid (hR4.grown (row := some w.heap.size) (grown_set w4 w.heap.size 5 (.slice A4 at2 at2)) (by simp) (fun k hk => by obtain rfl := Option.some.inj hk; exact Nat.le_refl _))
    have HP5 := Lib.hid (hP4.put 5 (.slice A4 at2 at2))
    have HB5 := Lib.hid (HB4.out.setCell (p := ⟨w.heap.size, 5, none⟩) (Nat.le_refl _) (.slice A4 at2 at2))
    have HS15 := Lib.hid (HS14.out.put (g := w.heap.size) (by omega) 5 (.slice A4 at2 at2))
    have HS25 := Lib.hid (HS24.out.put (g := w.heap.size) (by omega) 5 (.slice A4 at2 at2))
    have HS35 := Lib.hid (HS34.out.put (g := w.heap.size) (by omega) 5 (.slice A4 at2 at2))
    have HS45 := Lib.hid (hs4.put (g := w.heap.size) (by omega) 5 (.slice A4 at2 at2))
    have HS55 := Lib.hid (hs5.put (g := w.heap.size) (by omega) 5 (.slice A4 at2 at2))
    clear hq4 hq5 hs4 hs5 hR4 hP4 hown hb4 HS14 HS24 HS34 HB4 HR3 HP3 HB3 HS1 HS2 HS3 HCL e0 e1 e2 e3 e4 f0 f1 f2 f3 f4
    go_upto_region 6 with fail
    go_upto_region 7 with (go_at_call 48; refine (HQ4.out _).mono ?_; rintro e w' ⟨rfl, hw'⟩; replace hw' := hw'.symm; subst hw')
    change Hid (Wh (w4.setCell ⟨w.heap.size, 5, none⟩ (.slice A4 at2 at2)) w.heap.size 46 (partC p.sp A1 p.dst.length c1 A2 p.src.length c2 A3 p.tok.length c3 at1 A4 at2 at2)) at HP5
    have hz5 : (w4.setCell ⟨w.heap.size, 5, none⟩ (.slice A4 at2 at2)).heap.size = w4.heap.size := by simp [World.setCell]
    generalize w4.setCell ⟨w.heap.size, 5, none⟩ (.slice A4 at2 at2) = w5 at *
    clear h1 e5 f5
    have h1 := HR5.out.c1
    have e0 := HP5.out.cell 0
    have e1 := HP5.out.cell 1
    have e2 := HP5.out.cell 2
    have e3 := HP5.out.cell 3
    have e4 := HP5.out.cell 4
    have e5 := HP5.out.cell 5
    simp only [partC, List.getElem?_toArray, List.getElem?_cons_zero, List.getElem?_cons_succ] at e0 e1 e2 e3 e4 e5
    have f0 := HP5.out.frozen 0
    have f1 := HP5.out.frozen 1
    have f2 := HP5.out.frozen 2
    have f3 := HP5.out.frozen 3
    have f4 := HP5.out.frozen 4
    have f5 := HP5.out.frozen 5
    go_region_with (go_at_call 48; refine (HQ5.out _).mono ?_; rintro e w' ⟨rfl, hw'⟩; subst hw')
    all_goals
      go_wp2
      have hP6 := HP5.out.put6 (sp' := p.sp) (A1' := A1) (n1' := p.dst.length) (c1' := c1) (A2' := A2) (n2' := p.src.length) (c2' := c2) (A3' := A3) (n3' := p.tok.length) (c3' := c3) (a' := at1) (A4' := A4) (n4' := at2) (c4' := at2)
      have HWe := Lib.hid (hP6.below (Below.refl _ _).drew hP6.lt)
      have hln : len = l.length := HL.out.symm
      refine bodyPost_ret (results_ctt Tryd.results18 _ _ ⟨w.heap.size, 0, none⟩ _ rfl (load_part HWe.out rfl)) rfl ?_
      have hst : (hTakeS l (needS s2 (decide ((20 : Int) ≤ (n : Int)))) n).2 = some at2 := HST.out
      obtain ⟨a, hsa, _, hta⟩ := takeS_some hst
      obtain ⟨hsa, _⟩ := needS_some hsa
      obtain rfl := HAT.out a hsa
      have hgw : w.heap.size < w1.heap.size := by omega
      have hgw3 : w.heap.size < w3.heap.size := by omega
      refine ⟨((((((HB5.out.setCell (p := ⟨w.heap.size, 0, none⟩) (Nat.le_refl _) _).setCell (p := ⟨w.heap.size, 1, none⟩) (Nat.le_refl _) _).setCell (p := ⟨w.heap.size, 2, none⟩) (Nat.le_refl _) _).setCell (p := ⟨w.heap.size, 3, none⟩) (Nat.le_refl _) _).setCell (p := ⟨w.heap.size, 4, none⟩) (Nat.le_refl _) _).setCell (p := ⟨w.heap.size, 5, none⟩) (Nat.le_refl _) _).drew, p, n, s2, HPS.out, ?_⟩
      rw [hst]
      refine ⟨at1, A1, c1, A2, c2, A3, c3, A4, A5, by omega, hsa, by rw [← hln]; rfl, (HS15.out.put6 hgw (.int .u8 (p.sp : Int)) (.slice A1 p.dst.length c1) (.slice A2 p.src.length c2) (.slice A3 p.tok.length c3) (.int .i64 (at1 : Int)) (.slice A4 at2 at2)).drew.sv, (HS25.out.put6 hgw (.int .u8 (p.sp : Int)) (.slice A1 p.dst.length c1) (.slice A2 p.src.length c2) (.slice A3 p.tok.length c3) (.int .i64 (at1 : Int)) (.slice A4 at2 at2)).drew.sv, (HS35.out.put6 hgw (.int .u8 (p.sp : Int)) (.slice A1 p.dst.length c1) (.slice A2 p.src.length c2) (.slice A3 p.tok.length c3) (.int .i64 (at1 : Int)) (.slice A4 at2 at2)).drew.sv, ?_, ?_⟩
      · have h := (HS45.out.put6 hgw3 (.int .u8 (p.sp : Int)) (.slice A1 p.dst.length c1) (.slice A2 p.src.length c2) (.slice A3 p.tok.length c3) (.int .i64 (at1 : Int)) (.slice A4 at2 at2)).drew.sv
        rw [List.drop_zero] at h
        exact h
      · have h := (HS55.out.put6 hgw3 (.int .u8 (p.sp : Int)) (.slice A1 p.dst.length c1) (.slice A2 p.src.length c2) (.slice A3 p.tok.length c3) (.int .i64 (at1 : Int)) (.slice A4 at2 at2)).drew.sv
        rw [List.take_of_length_le (by rw [List.length_drop, HL.out]; exact Nat.le_refl _)] at h
        exact h
end

section
theorem val_be (N : Nat) : ∀ k a : Nat, val a (be N k) = a * 256 ^ k + N % 256 ^ k := by
  intro k
  induction k with
  | zero => intro a; simp [be, val, Nat.mod_one]
  | succ k ih =>
    intro a
    show val (256 * a + (UInt8.ofNat (N / 256 ^ k % 256)).toNat) (be N k) = _
    rw [ih, be_head, Nat.mod_pow_succ, Nat.add_mul, Nat.pow_succ, Nat.mul_comm (256 ^ k) 256, ← Nat.mul_assoc, Nat.mul_comm a 256, Nat.mul_comm (N / 256 ^ k % 256)]
    omega

theorem be_ne {N k : Nat} (h : 1 ≤ k) : be N k = UInt8.ofNat (N / 256 ^ (k - 1) % 256) :: be N (k - 1) := by
  obtain ⟨j, rfl⟩ : ∃ j, k = j + 1 := ⟨k - 1, by omega⟩
  rfl

theorem lg_pow {n : Nat} (h : n ≤ 4611686018427387903) : 2 ^ lg n = szN n := by
  rcases lg_cases h with ⟨h1, h2⟩ | ⟨h1, h2⟩ | ⟨h1, h2⟩ | ⟨h1, h2⟩ <;> rw [h1, h2]

/-- The head of a number's shortest bytes. -/
theorem enc_head {n : Nat} (h : n ≤ 4611686018427387903) : ∃ x : UInt8, enc n = x :: be n (szN n - 1) ∧ x.toNat % 64 = n / 256 ^ (szN n - 1) ∧ cls x = szN n := by
  have hp := szN_pos h
  have hlt := szN_lt h
  have hl3 : lg n ≤ 3 := by rcases lg_cases h with ⟨_, h2⟩ | ⟨_, h2⟩ | ⟨_, h2⟩ | ⟨_, h2⟩ <;> omega
  have hs : szN n = (szN n - 1) + 1 := by omega
  have h64 : n < 64 * 256 ^ (szN n - 1) := by
    rw [show 8 * szN n - 2 = 6 + 8 * (szN n - 1) by omega, Nat.pow_add, Nat.pow_mul] at hlt
    exact hlt
  have hc := be_class n (szN n - 1) (lg n) h64 hl3
  rw [← hs] at hc
  have hd : n / 256 ^ (szN n - 1) < 64 := by rw [Nat.div_lt_iff_lt_mul (Nat.pow_pos (by omega))]; exact h64
  rw [Nat.mod_eq_of_lt (show n / 256 ^ (szN n - 1) < 256 by omega)] at hc
  have ht : (UInt8.ofNat (n / 256 ^ (szN n - 1) + 64 * lg n)).toNat = n / 256 ^ (szN n - 1) + 64 * lg n := by
    rw [UInt8.toNat_ofNat', Nat.mod_eq_of_lt (by omega)]
  have key : ∀ q c : Nat, q < 64 → (q + 64 * c) % 64 = q ∧ (q + 64 * c) / 64 = c := by intro q c hq; omega
  refine ⟨_, hc.symm, by rw [ht]; exact (key _ _ hd).1, ?_⟩
  unfold cls
  rw [ht, (key _ _ hd).2]
  exact lg_pow h

/-- What was appended is taken as it was, whatever stands behind. -/
theorem tk_enc {n : Nat} (h : n ≤ 4611686018427387903) (r : List UInt8) : tk (enc n ++ r) = some (n, szN n) := by
  obtain ⟨x, he, hx, hc⟩ := enc_head h
  have hp := szN_pos h
  have hl : (be n (szN n - 1)).length = szN n - 1 := be_length _ _
  rw [he, List.cons_append, tk_long (by rw [List.length_append, hl]; omega), hc, hx, List.take_append_of_le_length (by omega), List.take_of_length_le (by omega), val_be]
  congr 2
  rw [Nat.mul_comm]
  exact Nat.div_add_mod n _

theorem encs_drop (l : List Nat) (k n : Nat) (h : l[k]? = some n) : encs (l.drop k) = enc n ++ encs (l.drop (k + 1)) := by
  obtain ⟨hk, he⟩ := List.getElem?_eq_some_iff.1 h
  rw [List.drop_eq_getElem_cons hk, he]
  rfl

/-- Cut short it is none. -/
theorem tk_cut {n : Nat} (h : n ≤ 4611686018427387903) (r : List UInt8) : tk ((enc n ++ r).take (szN n - 1)) = none := by
  obtain ⟨x, he, hx, hc⟩ := enc_head h
  have hp := szN_pos h
  have hl : (be n (szN n - 1)).length = szN n - 1 := be_length _ _
  by_cases h1 : szN n = 1
  · rw [h1]
    rfl
  · rw [he, List.cons_append, show szN n - 1 = (szN n - 2) + 1 by omega, List.take_succ_cons]
    refine tk_short ?_
    rw [List.length_take, List.length_append, hc]
    omega

/-- What is taken has no shorter bytes than it has. -/
theorem tk_shortest {l : List UInt8} {n k : Nat} (h : tk l = some (n, k)) : szN n ≤ k ∧ n ≤ 4611686018427387903 := by
  obtain ⟨x, t, rfl, rfl, hs, rfl⟩ := tk_some h
  have hv := val_lt (t.take (cls x - 1)) (x.toNat % 64) 64 (by omega)
  have ht : (t.take (cls x - 1)).length = cls x - 1 := by rw [List.length_take]; omega
  rw [ht] at hv
  generalize val (x.toNat % 64) (t.take (cls x - 1)) = n at *
  rcases cls_cases x with ⟨_, hc⟩ | ⟨_, hc⟩ | ⟨_, hc⟩ | ⟨_, hc⟩ <;> rw [hc] at hv ⊢
  · have h1 : n < 64 := hv
    exact ⟨by rw [szN_1 (by omega)]; omega, by omega⟩
  · have h1 : n < 16384 := hv
    refine ⟨?_, by omega⟩
    rcases szN_cases n with ⟨_, e⟩ | ⟨_, _, e⟩ | ⟨_, _, e⟩ | ⟨_, _, e⟩ | ⟨_, e⟩ <;> omega
  · have h1 : n < 1073741824 := hv
    refine ⟨?_, by omega⟩
    rcases szN_cases n with ⟨_, e⟩ | ⟨_, _, e⟩ | ⟨_, _, e⟩ | ⟨_, _, e⟩ | ⟨_, e⟩ <;> omega
  · have h1 : n < 4611686018427387904 := hv
    exact ⟨szN_le n, by omega⟩
end

section
open Go.RowKit
set_option linter.unusedVariables false

theorem verB_iff (v : List UInt8) : verB v = true ↔ v = [0, 0, 0, 1] := by
  unfold verB
  rw [beq_iff_eq, Lib.toList_data]
  simp [strB]

/-- What stands between a long packet's first byte and its number. -/
def longB (sp : Nat) (dst src tok : List UInt8) (m : Nat) : List UInt8 :=
  [0, 0, 0, 1] ++ (UInt8.ofNat dst.length :: (dst ++ (UInt8.ofNat src.length :: (src ++ ((if sp = 0 then enc tok.length ++ tok else []) ++ enc m)))))

theorem takeS_at {l u r : List UInt8} {a : Nat} (h : l.drop a = u ++ r) : hTakeS l (some a) u.length = (u, some (a + u.length)) ∧ l.drop (a + u.length) = r := by
  have hl : l.length - a = u.length + r.length := by rw [← List.length_drop, h, List.length_append]
  unfold hTakeS
  simp only
  rw [if_pos (by omega), h, ← List.drop_drop, h]
  simp

theorem octS_at {l r : List UInt8} {x : UInt8} {a : Nat} (h : l.drop a = x :: r) : octS l (some a) = (x, some (a + 1)) ∧ l.drop (a + 1) = r := by
  have hx : l[a]? = some x := by
    have := List.getElem?_drop (xs := l) (i := a) (j := 0)
    rw [h] at this
    simpa using this.symm
  unfold octS
  simp only [hx]
  refine ⟨trivial, ?_⟩
  rw [← List.drop_drop, h]
  rfl

theorem numS_at {l r : List UInt8} {n a : Nat} (h : l.drop a = enc n ++ r) (hn : n ≤ 4611686018427387903) : numS l (some a) = (n, some (a + szN n)) ∧ l.drop (a + szN n) = r := by
  unfold numS
  simp only
  rw [h, tk_enc hn]
  refine ⟨rfl, ?_⟩
  rw [← List.drop_drop, h, ← enc_length]
  simp

theorem idS_at {l d r : List UInt8} {a : Nat} (h : l.drop a = UInt8.ofNat d.length :: (d ++ r)) (hd : d.length ≤ 20) : idS l (some a) = (d, some (a + 1 + d.length)) ∧ l.drop (a + 1 + d.length) = r := by
  obtain ⟨ho, hr⟩ := octS_at h
  have hx : (UInt8.ofNat d.length).toNat = d.length := by rw [UInt8.toNat_ofNat', Nat.mod_eq_of_lt (by omega)]
  have ht := takeS_at hr
  unfold idS
  rw [ho]
  simp only [hx]
  rw [show decide ((d.length : Int) ≤ 20) = true from decide_eq_true (by omega)]
  exact ht

/-- What the reader tells of a long packet's bytes. -/
theorem long_at {l r : List UInt8} {x : UInt8} {sp m : Nat} {dst src tok : List UInt8} (hl : l = x :: (longB sp dst src tok m ++ r)) (hsp : (sp = 0 ∧ x.toNat / 16 % 4 = 0) ∨ (sp = 1 ∧ x.toNat / 16 % 4 = 2 ∧ tok = []))
    (hd : dst.length ≤ 20) (hs : src.length ≤ 20) (ht : tok.length ≤ 1048576) (hm : m ≤ 4611686018427387903) :
    (spS x (some 1)).1 = sp ∧ (longD l x (some 1)).1 = dst ∧ (longR l x (some 1)).1 = src ∧ (longT l x (some 1)).1 = tok ∧ longN l x (some 1) = (m, some (1 + (longB sp dst src tok m).length)) := by
  have hspS : spS x (some 1) = (sp, some 1) := by
    unfold spS needS
    rcases hsp with ⟨rfl, h⟩ | ⟨rfl, h, _⟩ <;> rw [h] <;> rfl
  have hsp' : sp = 0 ∨ sp = 1 := by rcases hsp with ⟨h, _⟩ | ⟨h, _⟩ <;> simp [h]
  have h1 : l.drop 1 = [0, 0, 0, 1] ++ (UInt8.ofNat dst.length :: (dst ++ (UInt8.ofNat src.length :: (src ++ ((if sp = 0 then enc tok.length ++ tok else []) ++ (enc m ++ r)))))) := by
    subst hl
    simp [longB, List.append_assoc]
  obtain ⟨e1, h5⟩ := takeS_at h1
  have eD : longD l x (some 1) = (dst, some (6 + dst.length)) ∧ l.drop (6 + dst.length) = UInt8.ofNat src.length :: (src ++ ((if sp = 0 then enc tok.length ++ tok else []) ++ (enc m ++ r))) := by
    have hi := idS_at h5 hd
    unfold longD
    rw [hspS]
    have e1' : hTakeS l (some 1) 4 = ([0, 0, 0, 1], some 5) := e1
    simp only
    rw [e1']
    simp only
    rw [show verB [0, 0, 0, 1] = true from (verB_iff _).2 rfl]
    exact hi
  obtain ⟨eD, h6⟩ := eD
  obtain ⟨eR, h7⟩ := idS_at h6 hs
  have eR' : longR l x (some 1) = (src, some (6 + dst.length + 1 + src.length)) := by unfold longR; rw [eD]; exact eR
  refine ⟨by rw [hspS], by rw [eD], by rw [eR'], ?_⟩
  have hlen : (longB sp dst src tok m).length = 6 + dst.length + src.length + (if sp = 0 then enc tok.length ++ tok else []).length + szN m := by
    simp only [longB, List.length_append, List.length_cons, List.length_nil, enc_length]
    omega
  by_cases h0 : sp = 0
  · rw [if_pos h0] at h7 hlen
    rw [List.append_assoc] at h7
    obtain ⟨eN, h8⟩ := numS_at h7 (by omega)
    obtain ⟨eT, h9⟩ := takeS_at h8
    obtain ⟨eM, _⟩ := numS_at h9 hm
    have eT' : longT l x (some 1) = (tok, some (6 + dst.length + 1 + src.length + szN tok.length + tok.length)) := by
      unfold longT
      rw [hspS, if_pos (by exact h0), eR']
      simp only
      rw [eN]
      exact eT
    refine ⟨by rw [eT'], ?_⟩
    unfold longN
    rw [eT']
    simp only
    rw [eM, hlen, List.length_append, enc_length]
    congr 2
    omega
  · rw [if_neg h0] at h7 hlen
    rw [List.nil_append] at h7
    obtain ⟨eM, _⟩ := numS_at h7 hm
    have htok : tok = [] := by
      rcases hsp with ⟨h, _⟩ | ⟨_, _, h⟩
      · exact absurd h h0
      · exact h
    have eT' : longT l x (some 1) = ([], some (6 + dst.length + 1 + src.length)) := by
      unfold longT
      rw [hspS, if_neg (by exact h0), eR']
    refine ⟨by rw [eT', htok], ?_⟩
    unfold longN
    rw [eT']
    simp only
    rw [eM, hlen]
    congr 2
    simp
    omega

/-- The steps over fewer bytes, where they go on, tell the same as over more. -/
theorem takeS_pre {l : List UInt8} {c : Nat} {s : Option Nat} {n a : Nat} (h : (hTakeS (l.take c) s n).2 = some a) : hTakeS l s n = hTakeS (l.take c) s n := by
  obtain ⟨b, rfl, hn, ha⟩ := takeS_some h
  rw [List.length_take] at hn
  unfold hTakeS
  simp only
  rw [if_pos (by omega), if_pos (by rw [List.length_take]; omega), List.drop_take, List.take_take, Nat.min_eq_left (by omega)]

theorem octS_pre {l : List UInt8} {c : Nat} {s : Option Nat} {a : Nat} (h : (octS (l.take c) s).2 = some a) : octS l s = octS (l.take c) s := by
  unfold octS at h ⊢
  split at h
  · simp at h
  · rename_i b
    split at h
    · rename_i x hx
      have hx' := hx
      rw [List.getElem?_take] at hx'
      split at hx'
      · simp only [hx']
      · cases hx'
    · simp at h

theorem tk_pre {l : List UInt8} {c n k : Nat} (h : tk (l.take c) = some (n, k)) : tk l = some (n, k) := by
  obtain ⟨x, t, hx, rfl, hs, rfl⟩ := tk_some h
  cases l with
  | nil => simp at hx
  | cons y u =>
    cases c with
    | zero => simp at hx
    | succ c =>
      simp only [List.take_succ_cons, List.cons.injEq] at hx
      obtain ⟨rfl, rfl⟩ := hx
      rw [List.length_take] at hs
      rw [tk_long (by omega), List.take_take, Nat.min_eq_left (by omega)]

theorem numS_pre {l : List UInt8} {c : Nat} {s : Option Nat} {a : Nat} (h : (numS (l.take c) s).2 = some a) : numS l s = numS (l.take c) s := by
  unfold numS at h ⊢
  split at h
  · simp at h
  · rename_i b
    split at h
    · rename_i n k hk
      have hk' := hk
      rw [List.drop_take] at hk'
      simp only [tk_pre hk']
    · simp at h

theorem idS_pre {l : List UInt8} {c : Nat} {s : Option Nat} {a : Nat} (h : (idS (l.take c) s).2 = some a) : idS l s = idS (l.take c) s := by
  have h1 := h
  unfold idS at h1
  obtain ⟨b, hb, _⟩ := takeS_some h1
  obtain ⟨ho, _⟩ := needS_some hb
  have h2 := octS_pre ho
  have h3 := takeS_pre h1
  unfold idS
  rw [h2]
  exact h3

theorem idS_state {l : List UInt8} {s : Option Nat} {a : Nat} (h : (idS l s).2 = some a) : ∃ b, s = some b := by
  unfold idS at h
  obtain ⟨b, hb, _⟩ := takeS_some h
  obtain ⟨ho, _⟩ := needS_some hb
  unfold octS at ho
  split at ho
  · simp at ho
  · exact ⟨_, rfl⟩

theorem numS_state {l : List UInt8} {s : Option Nat} {a : Nat} (h : (numS l s).2 = some a) : ∃ b, s = some b := by
  unfold numS at h
  split at h
  · simp at h
  · exact ⟨_, rfl⟩

theorem long_pre {l : List UInt8} {c : Nat} {x : UInt8} {s : Option Nat} {a : Nat} (h : (longN (l.take c) x s).2 = some a) : longN l x s = longN (l.take c) x s := by
  have h1 := h
  unfold longN at h1
  obtain ⟨b, hb⟩ := numS_state h1
  have eN := numS_pre h1
  have hT : longT l x s = longT (l.take c) x s := by
    unfold longT at hb ⊢
    by_cases h0 : (spS x s).1 = 0
    · rw [if_pos h0] at hb ⊢
      rw [if_pos h0]
      obtain ⟨b2, hb2, _⟩ := takeS_some hb
      obtain ⟨b3, hb3⟩ := numS_state hb2
      have eR : longR l x s = longR (l.take c) x s := by
        have h3 := hb3
        unfold longR at h3 ⊢
        obtain ⟨b4, hb4⟩ := idS_state h3
        have eD : longD l x s = longD (l.take c) x s := by
          have h4 := hb4
          unfold longD at h4 ⊢
          obtain ⟨b5, hb5⟩ := idS_state h4
          obtain ⟨hb6, _⟩ := needS_some hb5
          rw [takeS_pre hb6]
          exact idS_pre h4
        rw [eD]
        exact idS_pre h3
      rw [eR, numS_pre hb2]
      exact takeS_pre hb
    · rw [if_neg h0] at hb ⊢
      rw [if_neg h0]
      simp only at hb ⊢
      have eR : longR l x s = longR (l.take c) x s := by
        have h3 := hb
        unfold longR at h3 ⊢
        obtain ⟨b4, hb4⟩ := idS_state h3
        have eD : longD l x s = longD (l.take c) x s := by
          have h4 := hb4
          unfold longD at h4 ⊢
          obtain ⟨b5, hb5⟩ := idS_state h4
          obtain ⟨hb6, _⟩ := needS_some hb5
          rw [takeS_pre hb6]
          exact idS_pre h4
        rw [eD]
        exact idS_pre h3
      rw [eR]
  unfold longN
  rw [hT]
  exact eN
end
end Go.Proofs.YtblclinfcdalaaaDoor
