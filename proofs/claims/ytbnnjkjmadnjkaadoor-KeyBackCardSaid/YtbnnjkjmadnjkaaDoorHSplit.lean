/-
  The walks through head's reader's part, and through head.Split.
-/
import Derived.Test.YtbnnjkjmadnjkaaDoorHLong
import Derived.Deep.DeepCutAuto
namespace Go.Proofs.YtbnnjkjmadnjkaaDoor
open Go.RowKit
set_option linter.unusedVariables false

/-- What stands behind a first byte. -/
def firstS (l : List UInt8) : UInt8 := (octS l (some 0)).1
def nextS (l : List UInt8) : Option Nat := needS (octS l (some 0)).2 ((firstS l).toNat / 64 % 2 == 1)

/-- A packet's parts, how many bytes it has from its number on, and where that is. -/
def PS (l : List UInt8) (own : Int) (p : PL) (n : Nat) (s2 : Option Nat) : Prop :=
  ((firstS l).toNat / 128 = 1 → p = ⟨(spS (firstS l) (nextS l)).1, (longD l (firstS l) (nextS l)).1, (longR l (firstS l) (nextS l)).1, (longT l (firstS l) (nextS l)).1⟩ ∧ n = (longN l (firstS l) (nextS l)).1 ∧ s2 = (longN l (firstS l) (nextS l)).2) ∧
  ((firstS l).toNat / 128 = 0 → p = ⟨2, (shortD l own (nextS l)).1, [], []⟩ ∧ s2 = (shortD l own (nextS l)).2 ∧ ∀ a, s2 = some a → n = l.length - a)

def GavePart (w : World) (B rb : Nat) (l : List UInt8) (A : Option Addr) (len c : Nat) (own : Int) (e : Ending) (w' : World) : Prop :=
  ∃ p n s2 A1 c1 A2 c2 A3 c3 at1 at' bad', PS l own p n s2 ∧ (∀ a, s2 = some a → at1 = a) ∧
    e = .returned (.agg (partC p.sp A1 p.dst.length c1 A2 p.src.length c2 A3 p.tok.length c3 at1 none 0 0)) ∧
    Sy w' w.heap.size A1 (p.dst.map cell8) ∧ Sy w' w.heap.size A2 (p.src.map cell8) ∧ Sy w' w.heap.size A3 (p.tok.map cell8) ∧
    Rd w' B rb l A len c at' bad' (hTakeS l (needS s2 (decide ((20 : Int) ≤ (n : Int)))) n).2 ∧ w.grownBy w' (some rb)

theorem and64 : ∀ n : Nat, n < 256 → bits .and .u8 (n : Int) 64 = ((n / 64 % 2 * 64 : Nat) : Int) := by decide +kernel
theorem and128 : ∀ n : Nat, n < 256 → bits .and .u8 (n : Int) 128 = ((n / 128 * 128 : Nat) : Int) := by decide +kernel

theorem results_c {P : Program} {fn : Func} {a : Tmp} {ta : TypeId} (h : fn.results = #[.cell a ta]) (tmps : Array Value) (w : World) (pa : Addr) (va : Value)
    (ha : tmps.getD a undef = .pointer (some pa)) (la : (loadVar ta pa).run P w = .ok va w) : (results fn tmps).run P w = .ok va w := by
  have ha' : tmps[a]?.getD undef = .pointer (some pa) := by simpa using ha
  simp [results, h, ha', asAddr, la]

def GaveL2 (w : World) (B rb : Nat) (l : List UInt8) (A : Option Addr) (len c : Nat) (own : Int) (e : Ending) (w' : World) : Prop :=
  ∃ p n s2, PS l own p n s2 ∧ GaveL w B rb l A len c p n s2 e w'

theorem Wh.put6 {w : World} {g : Nat} {sp sp' : Nat} {A1 A2 A3 A4 A1' A2' A3' A4' : Option Addr} {n1 c1 n2 c2 n3 c3 n4 c4 a n1' c1' n2' c2' n3' c3' n4' c4' a' : Nat}
    (h : Wh w g 37 (partC sp A1 n1 c1 A2 n2 c2 A3 n3 c3 a A4 n4 c4)) :
    Wh ((((((w.setCell ⟨g, 0, none⟩ (.int .u8 (sp' : Int))).setCell ⟨g, 1, none⟩ (.slice A1' n1' c1')).setCell ⟨g, 2, none⟩ (.slice A2' n2' c2')).setCell ⟨g, 3, none⟩ (.slice A3' n3' c3')).setCell ⟨g, 4, none⟩ (.int .i64 (a' : Int))).setCell ⟨g, 5, none⟩ (.slice A4' n4' c4'))
      g 37 (partC sp' A1' n1' c1' A2' n2' c2' A3' n3' c3' a' A4' n4' c4') := (((((h.put 0 _).put 1 _).put 2 _).put 3 _).put 4 _).put 5 _

theorem Wh.far6 {w : World} {k g : Nat} {t : TypeId} {cs : Array Value} (h : Wh w k t cs) (hne : k ≠ g) (v0 v1 v2 v3 v4 v5 : Value) :
    Wh ((((((w.setCell ⟨g, 0, none⟩ v0).setCell ⟨g, 1, none⟩ v1).setCell ⟨g, 2, none⟩ v2).setCell ⟨g, 3, none⟩ v3).setCell ⟨g, 4, none⟩ v4).setCell ⟨g, 5, none⟩ v5) k t cs :=
  (((((h.far hne _).far hne _).far hne _).far hne _).far hne _).far hne _

theorem grown_far6 {a b : World} {row : Option Nat} (h : a.grownBy b row) {g : Nat} (hg : a.heap.size ≤ g) (v0 v1 v2 v3 v4 v5 : Value) :
    a.grownBy ((((((b.setCell ⟨g, 0, none⟩ v0).setCell ⟨g, 1, none⟩ v1).setCell ⟨g, 2, none⟩ v2).setCell ⟨g, 3, none⟩ v3).setCell ⟨g, 4, none⟩ v4).setCell ⟨g, 5, none⟩ v5) row :=
  grown_far (grown_far (grown_far (grown_far (grown_far (grown_far h hg 0 v0) hg 1 v1) hg 2 v2) hg 3 v3) hg 4 v4) hg 5 v5

theorem Rd.far6 {w : World} {B rb : Nat} {l : List UInt8} {A : Option Addr} {len c at_ : Nat} {bad : Bool} {s : Option Nat} (h : Rd w B rb l A len c at_ bad s) {g : Nat} (hne : rb ≠ g) (hB : B ≤ g) (v0 v1 v2 v3 v4 v5 : Value) :
    Rd ((((((w.setCell ⟨g, 0, none⟩ v0).setCell ⟨g, 1, none⟩ v1).setCell ⟨g, 2, none⟩ v2).setCell ⟨g, 3, none⟩ v3).setCell ⟨g, 4, none⟩ v4).setCell ⟨g, 5, none⟩ v5) B rb l A len c at_ bad s := by
  have hs : ∀ (w' : World) (i : Nat) (v : Value), Rd w' B rb l A len c at_ bad s → Rd (w'.setCell ⟨g, i, none⟩ v) B rb l A len c at_ bad s := fun w' i v h => h.grown (row := some g) (grown_set _ _ _ _) (by simpa using hne) (fun k hk => by obtain rfl := Option.some.inj hk; exact hB)
  exact hs _ _ _ (hs _ _ _ (hs _ _ _ (hs _ _ _ (hs _ _ _ (hs _ _ _ h)))))

set_option maxRecDepth 10000 in
set_option maxHeartbeats 1600000 in
theorem part_any (own : Int) (h64 : -9223372036854775808 ≤ own ∧ own ≤ 9223372036854775807) {w : World} {B rb : Nat} {l : List UInt8} {A : Option Addr} {len c : Nat} (h : Rd w B rb l A len c 0 false (some 0)) (hlen : len ≤ 1048576) :
    Calls Tryd.prog 21 #[.pointer (some ⟨rb, 0, none⟩), .int .i64 own] w (GavePart w B rb l A len c own) := by
  have hlt := h.wh.lt
  have hW0 : Wh (w.alloc (.cells (partC 0 none 0 0 none 0 0 none 0 0 0 none 0 0) 37)) w.heap.size 37 (partC 0 none 0 0 none 0 0 none 0 0 0 none 0 0) := Wh.new _ _ _
  have hR0 := h.below ((Below.refl w.heap.size w).alloc (Nat.le_refl _) (.cells (partC 0 none 0 0 none 0 0 none 0 0 0 none 0 0) 37))
  have hg0 : w.grownBy (w.alloc (.cells (partC 0 none 0 0 none 0 0 none 0 0 0 none 0 0) 37)) (some rb) := grown_alloc (World.grownBy.refl _ _) _
  have hsz0 : (w.alloc (.cells (partC 0 none 0 0 none 0 0 none 0 0 0 none 0 0) 37)).heap.size = w.heap.size + 1 := by simp
  have HO := Lib.hid (octet_any hR0)
  have HP : Hid (PS l own = PS l own) := rfl
  have hx := (firstS l).toNat_lt
  have q64 : (bits .and .u8 ((firstS l).toNat : Int) 64 != 0) = ((firstS l).toNat / 64 % 2 == 1) := by
    rw [and64 _ hx]
    rcases Nat.mod_two_eq_zero_or_one ((firstS l).toNat / 64) with e | e <;> rw [e] <;> rfl
  have q128 : (bits .and .u8 ((firstS l).toNat : Int) 128 != 0) = decide ((firstS l).toNat / 128 = 1) := by
    rw [and128 _ hx]
    have : (firstS l).toNat / 128 = 0 ∨ (firstS l).toNat / 128 = 1 := by omega
    rcases this with e | e <;> rw [e] <;> rfl
  have HW0 := Lib.hid hW0
  have HG0 := Lib.hid hg0
  clear h hW0 hR0 hg0
  change Hid (Calls _ _ _ _ (HGaveB _ B rb l A len c (firstS l).toNat (octS l (some 0)).2)) at HO
  go_enter Tryd.func21, Tryd.ntmps21
  go_wp2_with fail
  change Calls _ _ _ (w.alloc (.cells (partC 0 none 0 0 none 0 0 none 0 0 0 none 0 0) 37)) _
  generalize w.alloc (.cells (partC 0 none 0 0 none 0 0 none 0 0 0 none 0 0) 37) = w0 at *
  refine HO.out.mono ?_
  rintro e w1 ⟨at1, bad1, rfl, hr1, hg1⟩
  have HR1 := Lib.hid hr1
  have HG1 := Lib.hid (grown_trans HG0.out hg1)
  have HW1 := Lib.hid (HW0.out.grown hg1 (by simp; omega))
  have hsz1 := hg1.size
  clear hr1 hg1 HO HG0 HW0
  go_wp2_with fail
  have HN := Lib.hid (need_any ((firstS l).toNat / 64 % 2 == 1) HR1.out)
  refine HN.out.mono ?_
  rintro e w2 ⟨rfl, hr2, hg2⟩
  have hsz2 := hg2.size
  have hl2 : LS w2 (w2.alloc (.cells (partC 0 none 0 0 none 0 0 none 0 0 0 none 0 0) 37)) B rb w2.heap.size l A len c at1 (bad1 || !((firstS l).toNat / 64 % 2 == 1)) (nextS l) (partC 0 none 0 0 none 0 0 none 0 0 0 none 0 0) :=
    ⟨hr2.below ((Below.refl _ _).alloc (Nat.le_refl _) _), Wh.new _ _ _, grown_alloc (World.grownBy.refl _ _) _, hr2.wh.lt, Nat.le_refl _⟩
  have HL2 := Lib.hid hl2
  have HG2 := Lib.hid (grown_alloc (grown_trans HG1.out hg2) (.cells (partC 0 none 0 0 none 0 0 none 0 0 0 none 0 0) 37))
  have HW2 := Lib.hid ((HW1.out.grown hg2 (by simp; omega)).alloc (.cells (partC 0 none 0 0 none 0 0 none 0 0 0 none 0 0) 37))
  clear hr2 hg2 hl2 HN HR1 HG1 HW1
  have hsz3 : (w2.alloc (.cells (partC 0 none 0 0 none 0 0 none 0 0 0 none 0 0) 37)).heap.size = w2.heap.size + 1 := by simp
  have HCS : Hid ((firstS l).toNat / 128 = 0 → Calls Tryd.prog 47 #[.pointer (some ⟨rb, 0, none⟩), .int .i64 own] (w2.alloc (.cells (partC 0 none 0 0 none 0 0 none 0 0 0 none 0 0) 37)) (GaveL2 (w2.alloc (.cells (partC 0 none 0 0 none 0 0 none 0 0 0 none 0 0) 37)) B rb l A len c own)) := fun h0 =>
    (short_any own h64 HL2.out.rd hlen).mono fun e w' ⟨n, _, hna, hg⟩ => ⟨_, n, _, ⟨fun h => by omega, fun _ => ⟨rfl, rfl, hna⟩⟩, hg⟩
  have HCL : Hid ((firstS l).toNat / 128 = 1 → Calls Tryd.prog 46 #[.pointer (some ⟨rb, 0, none⟩), .int .u8 ((firstS l).toNat : Int)] (w2.alloc (.cells (partC 0 none 0 0 none 0 0 none 0 0 0 none 0 0) 37)) (GaveL2 (w2.alloc (.cells (partC 0 none 0 0 none 0 0 none 0 0 0 none 0 0) 37)) B rb l A len c own)) := fun h0 =>
    (long_any (firstS l) HL2.out.rd hlen).mono fun e w' hg => ⟨_, _, _, ⟨fun _ => ⟨rfl, rfl, rfl⟩, fun h => by omega⟩, hg⟩
  cases hb : decide ((firstS l).toNat / 128 = 1)
  all_goals
    rw [hb] at q128
    first
      | have HC := Lib.hid (HCS.out (by have := of_decide_eq_false hb; omega))
      | have HC := Lib.hid (HCL.out (of_decide_eq_true hb))
    clear hb HCS HCL
    go_wp2_with fail
    change Calls _ _ _ (w2.alloc (.cells (partC 0 none 0 0 none 0 0 none 0 0 0 none 0 0) 37)) _
    generalize w2.alloc (.cells (partC 0 none 0 0 none 0 0 none 0 0 0 none 0 0) 37) = w3 at *
    refine HC.out.mono ?_
    rintro e w4 ⟨p, n, s2, hps, A1, c1, A2, c2, A3, c3, at4, bad4, rfl, hs1, hs2, hs3, hr4, hg4⟩
    have HPS := Lib.hid hps
    have hsz4 := hg4.size
    have hl4 := HL2.out.call hr4 hg4
    have HG4 := Lib.hid (grown_trans HG2.out hg4)
    have HW4 := Lib.hid (HW2.out.grown hg4 (by simp; omega))
    obtain ⟨e0, e1, e2, e3, e4, e5⟩ := hl4.cells
    have f0 := hl4.pt.frozen 0
    have f1 := hl4.pt.frozen 1
    have f2 := hl4.pt.frozen 2
    have f3 := hl4.pt.frozen 3
    have f4 := hl4.pt.frozen 4
    have f5 := hl4.pt.frozen 5
    have HL4 := Lib.hid hl4
    have HS1 := Lib.hid hs1
    have HS2 := Lib.hid hs2
    have HS3 := Lib.hid hs3
    clear hps hs1 hs2 hs3 hr4 hg4 hl4 HL2 HG2 HW2 HC
    unfold partC
    go_upto_region 8 with fail
    have HL5 := Lib.hid (HL4.out.put6 (sp' := p.sp) (A1' := A1) (n1' := p.dst.length) (c1' := c1) (A2' := A2) (n2' := p.src.length) (c2' := c2) (A3' := A3) (n3' := p.tok.length) (c3' := c3) (a' := 0) (A4' := none) (n4' := 0) (c4' := 0))
    have HW5 := Lib.hid (HW4.out.far6 (g := w2.heap.size) (by omega) (.int .u8 (p.sp : Int)) (.slice A1 p.dst.length c1) (.slice A2 p.src.length c2) (.slice A3 p.tok.length c3) (.int .i64 0) (.slice none 0 0))
    have HG5 := Lib.hid (grown_far6 HG4.out (g := w2.heap.size) (by omega) (.int .u8 (p.sp : Int)) (.slice A1 p.dst.length c1) (.slice A2 p.src.length c2) (.slice A3 p.tok.length c3) (.int .i64 0) (.slice none 0 0))
    have HS15 := Lib.hid (HS1.out.put6 (g := w2.heap.size) (by omega) (.int .u8 (p.sp : Int)) (.slice A1 p.dst.length c1) (.slice A2 p.src.length c2) (.slice A3 p.tok.length c3) (.int .i64 0) (.slice none 0 0))
    have HS25 := Lib.hid (HS2.out.put6 (g := w2.heap.size) (by omega) (.int .u8 (p.sp : Int)) (.slice A1 p.dst.length c1) (.slice A2 p.src.length c2) (.slice A3 p.tok.length c3) (.int .i64 0) (.slice none 0 0))
    have HS35 := Lib.hid (HS3.out.put6 (g := w2.heap.size) (by omega) (.int .u8 (p.sp : Int)) (.slice A1 p.dst.length c1) (.slice A2 p.src.length c2) (.slice A3 p.tok.length c3) (.int .i64 0) (.slice none 0 0))
    have hsz5 : ((((((w4.setCell ⟨w2.heap.size, 0, none⟩ (.int .u8 (p.sp : Int))).setCell ⟨w2.heap.size, 1, none⟩ (.slice A1 p.dst.length c1)).setCell ⟨w2.heap.size, 2, none⟩ (.slice A2 p.src.length c2)).setCell ⟨w2.heap.size, 3, none⟩ (.slice A3 p.tok.length c3)).setCell ⟨w2.heap.size, 4, none⟩ (.int .i64 0)).setCell ⟨w2.heap.size, 5, none⟩ (.slice none 0 0)).heap.size = w4.heap.size := by simp [World.setCell]
    clear HL4 HW4 HG4 HS1 HS2 HS3 e0 e1 e2 e3 e4 e5 f0 f1 f2 f3 f4 f5
    change Code.wp _ _ _ _ ((((((w4.setCell ⟨w2.heap.size, 0, none⟩ (.int .u8 (p.sp : Int))).setCell ⟨w2.heap.size, 1, none⟩ (.slice A1 p.dst.length c1)).setCell ⟨w2.heap.size, 2, none⟩ (.slice A2 p.src.length c2)).setCell ⟨w2.heap.size, 3, none⟩ (.slice A3 p.tok.length c3)).setCell ⟨w2.heap.size, 4, none⟩ (.int .i64 0)).setCell ⟨w2.heap.size, 5, none⟩ (.slice none 0 0))
    change Hid (LS w2 ((((((w4.setCell ⟨w2.heap.size, 0, none⟩ (.int .u8 (p.sp : Int))).setCell ⟨w2.heap.size, 1, none⟩ (.slice A1 p.dst.length c1)).setCell ⟨w2.heap.size, 2, none⟩ (.slice A2 p.src.length c2)).setCell ⟨w2.heap.size, 3, none⟩ (.slice A3 p.tok.length c3)).setCell ⟨w2.heap.size, 4, none⟩ (.int .i64 0)).setCell ⟨w2.heap.size, 5, none⟩ (.slice none 0 0)) B rb w2.heap.size l A len c at4 bad4 s2 (partC p.sp A1 p.dst.length c1 A2 p.src.length c2 A3 p.tok.length c3 0 none 0 0)) at HL5
    generalize ((((((w4.setCell ⟨w2.heap.size, 0, none⟩ (.int .u8 (p.sp : Int))).setCell ⟨w2.heap.size, 1, none⟩ (.slice A1 p.dst.length c1)).setCell ⟨w2.heap.size, 2, none⟩ (.slice A2 p.src.length c2)).setCell ⟨w2.heap.size, 3, none⟩ (.slice A3 p.tok.length c3)).setCell ⟨w2.heap.size, 4, none⟩ (.int .i64 0)).setCell ⟨w2.heap.size, 5, none⟩ (.slice none 0 0)) = w5 at *
    have h1 := HL5.out.rd.c1
    have e4 := HL5.out.cells.2.2.2.2.1
    have f4 := HL5.out.pt.frozen 4
    have HL6 := Lib.hid (HL5.out.put 4 (.int .i64 (at4 : Int)))
    have HW6 := Lib.hid (HW5.out.far (p := ⟨w2.heap.size, 4, none⟩) (by simp; omega) (.int .i64 (at4 : Int)))
    have HG6 := Lib.hid (grown_far HG5.out (g := w2.heap.size) (by omega) 4 (.int .i64 (at4 : Int)))
    have HS16 := Lib.hid (HS15.out.put (g := w2.heap.size) (by omega) 4 (.int .i64 (at4 : Int)))
    have HS26 := Lib.hid (HS25.out.put (g := w2.heap.size) (by omega) 4 (.int .i64 (at4 : Int)))
    have HS36 := Lib.hid (HS35.out.put (g := w2.heap.size) (by omega) 4 (.int .i64 (at4 : Int)))
    have hat : ∀ a, s2 = some a → at4 = a := fun a ha => by
      have h1 := HL5.out.rd.st
      rw [ha] at h1
      cases bad4
      · simp only [Bool.false_eq_true, if_false, Option.some.injEq] at h1
        exact h1.symm
      · simp at h1
    have HAT := Lib.hid hat
    clear hat HL5 HW5 HG5 HS15 HS25 HS35
    go_upto_region 9 with fail
    change Hid (LS w2 (w5.setCell ⟨w2.heap.size, 4, none⟩ (.int .i64 (at4 : Int))) B rb w2.heap.size l A len c at4 bad4 s2 (partC p.sp A1 p.dst.length c1 A2 p.src.length c2 A3 p.tok.length c3 at4 none 0 0)) at HL6
    have hsz6 : (w5.setCell ⟨w2.heap.size, 4, none⟩ (.int .i64 (at4 : Int))).heap.size = w5.heap.size := by simp [World.setCell]
    generalize w5.setCell ⟨w2.heap.size, 4, none⟩ (.int .i64 (at4 : Int)) = w6 at *
    clear h1 e4 f4
    go_wp2_with fail
    refine (need_any (decide ((20 : Int) ≤ (n : Int))) HL6.out.rd).mono ?_
    rintro e w7 ⟨rfl, hr7, hg7⟩
    have hrb3 : ∀ k : Nat, some rb = some k → k < w3.heap.size := fun k hk => by obtain rfl := Option.some.inj hk; omega
    have hg7s := hg7.size
    have HL7 := Lib.hid (HL6.out.call hr7 hg7)
    have HW7 := Lib.hid (HW6.out.grown hg7 (by simp; omega))
    have HG7 := Lib.hid (grown_trans HG6.out hg7)
    have HS17 := Lib.hid (HS16.out.grown hg7 hrb3)
    have HS27 := Lib.hid (HS26.out.grown hg7 hrb3)
    have HS37 := Lib.hid (HS36.out.grown hg7 hrb3)
    clear HL6 HW6 HG6 HS16 HS26 HS36 hr7 hg7
    go_wp2_with fail
    have HTK := Lib.hid (take_any' n HL7.out.rd)
    refine HTK.out.mono ?_
    rintro e w8 ⟨A8, c8, at8, bad8, rfl, hc8, hm8, hs8, hr8, hg8⟩
    have hg8s := hg8.size
    have HL8 := Lib.hid (HL7.out.call hr8 hg8)
    have HW8 := Lib.hid (HW7.out.grown hg8 (by simp; omega))
    have HG8 := Lib.hid (grown_trans HG7.out hg8)
    have HS18 := Lib.hid (HS17.out.grown hg8 hrb3)
    have HS28 := Lib.hid (HS27.out.grown hg8 hrb3)
    have HS38 := Lib.hid (HS37.out.grown hg8 hrb3)
    clear HL7 HW7 HG7 HS17 HS27 HS37 hr8 hg8 hs8 HTK
    obtain ⟨e0, e1, e2, e3, e4, e5⟩ := HL8.out.cells
    have g0 := HW8.out.cell 0
    have g1 := HW8.out.cell 1
    have g2 := HW8.out.cell 2
    have g3 := HW8.out.cell 3
    have g4 := HW8.out.cell 4
    have g5 := HW8.out.cell 5
    simp only [partC, List.getElem?_toArray, List.getElem?_cons_zero, List.getElem?_cons_succ] at g0 g1 g2 g3 g4 g5
    have f0 := HW8.out.frozen 0
    have f1 := HW8.out.frozen 1
    have f2 := HW8.out.frozen 2
    have f3 := HW8.out.frozen 3
    have f4 := HW8.out.frozen 4
    have f5 := HW8.out.frozen 5
    go_wp2
    have hlt9 : w.heap.size < w3.heap.size := by omega
    have HWe := Lib.hid (HW8.out.put6 (sp' := p.sp) (A1' := A1) (n1' := p.dst.length) (c1' := c1) (A2' := A2) (n2' := p.src.length) (c2' := c2) (A3' := A3) (n3' := p.tok.length) (c3' := c3) (a' := at4) (A4' := none) (n4' := 0) (c4' := 0))
    have hB := HL8.out.rd.hB
    refine bodyPost_ret (results_c Tryd.results21 _ _ ⟨w.heap.size, 0, none⟩ _ rfl (load_part HWe.out rfl)) rfl ?_
    exact ⟨p, n, s2, A1, c1, A2, c2, A3, c3, at4, at8, bad8, HPS.out, HAT.out, rfl, (HS18.out.put6 hlt9 _ _ _ _ _ _).mono (by omega), (HS28.out.put6 hlt9 _ _ _ _ _ _).mono (by omega), (HS38.out.put6 hlt9 _ _ _ _ _ _).mono (by omega), HL8.out.rd.far6 (by omega) (by omega) _ _ _ _ _ _, grown_far6 HG8.out (Nat.le_refl _) _ _ _ _ _ _⟩
end Go.Proofs.YtbnnjkjmadnjkaaDoor
