/-
  The walk through the statements' own first question (known): the chapter's rows; Split by what it tells alone.
-/
import Derived.Test.YtpnpbjdkldmmdaaDoorHPut3
import Derived.Test.YtpnpbjdkldmmdaaDoorZeros
import Derived.BigQuiet
namespace Go.Proofs.YtpnpbjdkldmmdaaDoor
open Go.RowKit
set_option linter.unusedVariables false

/-- A new block, as a slice. -/
theorem sv_block (w : World) (cs : Array Value) (t : TypeId) (B : Nat) (hB : w.heap.size < B) : Sv (w.alloc (.cells cs t)) B (some ⟨w.heap.size, 0, none⟩) cs.toList := by
  intro _
  refine ⟨w.heap.size, 0, rfl, hB, fun i v hv => ?_⟩
  rw [Nat.zero_add]
  have := cell_of_row (w.alloc (.cells cs t)) w.heap.size i cs t (0, 0) (heap_alloc_new w _)
  rw [this]
  simpa using hv

/-- What Split tells: the packet's parts, the place behind its header, the place behind it. -/
def splitP (l : List UInt8) (own : Int) : PL :=
  if (firstS l).toNat / 128 = 1 then ⟨(spS (firstS l) (nextS l)).1, (longD l (firstS l) (nextS l)).1, (longR l (firstS l) (nextS l)).1, (longT l (firstS l) (nextS l)).1⟩ else ⟨2, (shortD l own (nextS l)).1, [], []⟩
def splitA (l : List UInt8) (own : Int) : Option Nat := if (firstS l).toNat / 128 = 1 then (longN l (firstS l) (nextS l)).2 else (shortD l own (nextS l)).2
def splitN (l : List UInt8) (own : Int) : Nat := if (firstS l).toNat / 128 = 1 then (longN l (firstS l) (nextS l)).1 else l.length - (splitA l own).getD 0
def splitT (l : List UInt8) (own : Int) : Option Nat := (takeS l (needS (splitA l own) (decide ((20 : Int) ≤ (splitN l own : Int)))) (splitN l own)).2

theorem ps_known {l : List UInt8} {own : Int} {p : PL} {n : Nat} {s2 : Option Nat} (h : PS l own p n s2) : p = splitP l own ∧ s2 = splitA l own ∧ (takeS l (needS s2 (decide ((20 : Int) ≤ (n : Int)))) n).2 = splitT l own := by
  have hx := (firstS l).toNat_lt
  have hc : (firstS l).toNat / 128 = 0 ∨ (firstS l).toNat / 128 = 1 := by omega
  rcases hc with hc | hc
  · obtain ⟨rfl, rfl, hn⟩ := h.2 hc
    have h1 : ¬ (firstS l).toNat / 128 = 1 := by omega
    refine ⟨by unfold splitP; rw [if_neg h1], by unfold splitA; rw [if_neg h1], ?_⟩
    unfold splitT splitN
    rw [if_neg h1]
    unfold splitA
    rw [if_neg h1]
    rcases hs : (shortD l own (nextS l)).2 with _ | a
    · have hz : ∀ (b : Bool) (m : Nat), takeS l (needS none b) m = ([], none) := fun b m => by cases b <;> rfl
      rw [hz, hz]
    · rw [hn a hs]
      rfl
  · obtain ⟨rfl, rfl, rfl⟩ := h.1 hc
    refine ⟨by unfold splitP; rw [if_pos hc], by unfold splitA; rw [if_pos hc], ?_⟩
    unfold splitT splitN splitA
    rw [if_pos hc, if_pos hc]

theorem split_err {l : List UInt8} {own : Int} (ht : splitT l own = none) (h64 : -9223372036854775808 ≤ own ∧ own ≤ 9223372036854775807) (A : Option Addr) (len c : Nat) (w : World) (hl : l.length = len) (hr : Sl w w.heap.size A l) (hc : len ≤ c) (hm : c ≤ maxLen) (hlen : len ≤ 1048576) :
    Calls Tryd.prog 11 #[.slice A len c, .int .i64 own] w fun e w' => e = .returned (.tuple #[.agg #[.int .u8 0, .slice none 0 0, .slice none 0 0, .slice none 0 0, .int .i64 0, .slice none 0 0], .slice none 0 0, .int .i64 2]) ∧ Below w.heap.size w w' := by
  refine (split_any own h64 l A len c w hl hr hc hm hlen).mono ?_
  rintro e w' ⟨hb, p, n, s2, hps, hmt⟩
  rw [(ps_known hps).2.2, ht] at hmt
  exact ⟨hmt, hb⟩

/-- What Split answers where there is a packet. -/
def SplitOk (w : World) (l : List UInt8) (p : PL) (a t : Nat) (e : Ending) (w' : World) : Prop :=
  ∃ A1 c1 A2 c2 A3 c3 A4 A5, t ≤ l.length ∧ e = .returned (.tuple #[.agg #[.int .u8 (p.sp : Int), .slice A1 p.dst.length c1, .slice A2 p.src.length c2, .slice A3 p.tok.length c3, .int .i64 (a : Int), .slice A4 t t], .slice A5 (l.length - t) (l.length - t), .int .i64 0]) ∧
    Sl w' w'.heap.size A1 p.dst ∧ Sl w' w'.heap.size A2 p.src ∧ Sl w' w'.heap.size A3 p.tok ∧ Sl w' w'.heap.size A4 (l.take t) ∧ Sl w' w'.heap.size A5 (l.drop t) ∧ Below w.heap.size w w'

theorem split_ok {l : List UInt8} {own : Int} {a t : Nat} (ht : splitT l own = some t) (ha : splitA l own = some a) (h64 : -9223372036854775808 ≤ own ∧ own ≤ 9223372036854775807) (A : Option Addr) (len c : Nat) (w : World) (hl : l.length = len) (hr : Sl w w.heap.size A l) (hc : len ≤ c) (hm : c ≤ maxLen) (hlen : len ≤ 1048576) :
    Calls Tryd.prog 11 #[.slice A len c, .int .i64 own] w (SplitOk w l (splitP l own) a t) := by
  refine (split_any own h64 l A len c w hl hr hc hm hlen).mono ?_
  rintro e w' ⟨hb, p, n, s2, hps, hmt⟩
  obtain ⟨rfl, rfl, hT⟩ := ps_known hps
  rw [hT, ht] at hmt
  obtain ⟨a', A1, c1, A2, c2, A3, c3, A4, A5, h1, h2, h3, h4, h5, h6, h7, h8⟩ := hmt
  rw [ha] at h2
  obtain rfl := Option.some.inj h2
  exact ⟨A1, c1, A2, c2, A3, c3, A4, A5, h1, h3, h4, h5, h6, h7, h8, hb⟩

theorem k_put1 (A1 : Option Addr) (c1 : Nat) (w : World) (h1 : Sl w w.heap.size A1 [1, 2]) (hT : Tab w) :
    Calls Tryd.prog 9 #[.agg #[.int .u8 0, .slice A1 2 c1, .slice none 0 0, .slice none 0 0, .bool false, .int .u64 2, .int .i64 4], .int .i64 1162] w (Gave w [195, 0, 0, 0, 1, 2, 1, 2, 0, 0, 68, 142, 0, 0, 0, 2] fun v => .tuple #[v, .int .i64 0]) := by
  have h := hput_ok 0 4 1162 2 [1, 2] [] [] false A1 c1 none 0 none 0 w (by decide) (by omega) h1 (Sv.nil _ _ _) (Sv.nil _ _ _) (by simp) hT (.inl rfl) (by simp) (by simp) (by simp)
  rw [show headB 0 4 [1, 2] [] [] false 2 1162 = [195, 0, 0, 0, 1, 2, 1, 2, 0, 0, 68, 142, 0, 0, 0, 2] by decide +kernel] at h
  exact h

theorem k_put2 (A1 : Option Addr) (c1 : Nat) (w : World) (h1 : Sl w w.heap.size A1 [5]) (hT : Tab w) :
    Calls Tryd.prog 9 #[.agg #[.int .u8 2, .slice A1 1 c1, .slice none 0 0, .slice none 0 0, .bool true, .int .u64 258, .int .i64 1], .int .i64 9] w (Gave w [68, 5, 2] fun v => .tuple #[v, .int .i64 0]) := by
  have h := hput_ok 2 1 9 258 [5] [] [] true A1 c1 none 0 none 0 w (by decide) (by omega) h1 (Sv.nil _ _ _) (Sv.nil _ _ _) (by simp) hT (.inr (.inr rfl)) (by simp) (by simp) (by simp)
  rw [show headB 2 1 [5] [] [] true 258 9 = [68, 5, 2] by decide +kernel] at h
  exact h

/-- The chapter's datagrams. -/
def kA : List UInt8 := [65] ++ List.replicate 20 0
def kB : List UInt8 := [211, 0, 0, 0, 1] ++ List.replicate 30 0
theorem k_a1 : splitT kA 1 = none := by decide +kernel
theorem k_a0 : splitT kA 0 = some 21 ∧ splitA kA 0 = some 1 ∧ (splitP kA 0).sp = 2 := by decide +kernel
theorem k_z : splitT (List.replicate 31 0) 0 = none := by decide +kernel
theorem k_b : splitT kB 0 = none := by decide +kernel

theorem rep_cell (k : Nat) : List.replicate k (Value.int .u8 0) = (List.replicate k (0 : UInt8)).map cell8 := by rw [List.map_replicate]; rfl

theorem k_split0 (A : Option Addr) (c : Nat) (w : World) (hr : Sl w w.heap.size A kA) (hc : 21 ≤ c) (hm : c ≤ maxLen) :
    Calls Tryd.prog 11 #[.slice A 21 c, .int .i64 0] w fun e w' => ∃ A1 n1 c1 A2 n2 c2 A3 n3 c3 A4 A5, e = .returned (.tuple #[.agg #[.int .u8 2, .slice A1 n1 c1, .slice A2 n2 c2, .slice A3 n3 c3, .int .i64 1, .slice A4 21 21], .slice A5 0 0, .int .i64 0]) ∧ Below w.heap.size w w' := by
  refine (split_ok k_a0.1 k_a0.2.1 (by omega) A 21 c w rfl hr hc hm (by omega)).mono ?_
  rintro e w' ⟨A1, c1, A2, c2, A3, c3, A4, A5, _, rfl, _, _, _, _, _, hb⟩
  rw [k_a0.2.2]
  exact ⟨A1, _, c1, A2, _, c2, A3, _, c3, A4, A5, rfl, hb⟩

def Z6 (e : Ending) (w w' : World) : Prop := e = .returned (.tuple #[.agg #[.int .u8 0, .slice none 0 0, .slice none 0 0, .slice none 0 0, .int .i64 0, .slice none 0 0], .slice none 0 0, .int .i64 2]) ∧ Below w.heap.size w w'

theorem k_b_use {w : World} {base : Nat} {v : Value} (h : w.ownsRow base 5 1 v 35 (([211, 0, 0, 0, 1] : List UInt8).map cell8 ++ List.replicate 30 (.int .u8 0))) :
    ∃ A c, v = .slice A 35 c ∧ Hid (Calls Tryd.prog 11 #[.slice A 35 c, .int .i64 0] w fun e w' => Z6 e w w') := by
  rw [rep_cell, ← List.map_append] at h
  obtain ⟨A, c, rfl, h1, h2⟩ := own_form h
  exact ⟨A, c, rfl, Lib.hid (split_err k_b (by omega) A 35 c w rfl (Sv.of_own h) h1 h2 (by omega))⟩

theorem k_z_use {w : World} {base g : Nat} (h : w.ownsRow base 5 1 (.slice (some ⟨g, 0, none⟩) 31 31) 31 (madeCells (Value.int .u8 0).cells (31 * 1)).toList) :
    Hid (Calls Tryd.prog 11 #[.slice (some ⟨g, 0, none⟩) 31 31, .int .i64 0] w fun e w' => Z6 e w w') := by
  rw [show (madeCells (Value.int .u8 0).cells (31 * 1)).toList = (List.replicate 31 (0 : UInt8)).map cell8 by kernel_rfl] at h
  exact Lib.hid (split_err k_z (by omega) _ 31 31 w rfl (Sv.of_own h) (Nat.le_refl _) (by unfold maxLen; omega) (by omega))

def KS0 (w : World) (e : Ending) (w' : World) : Prop := ∃ A1 n1 c1 A2 n2 c2 A3 n3 c3 A4 A5, e = .returned (.tuple #[.agg #[.int .u8 2, .slice A1 n1 c1, .slice A2 n2 c2, .slice A3 n3 c3, .int .i64 1, .slice A4 21 21], .slice A5 0 0, .int .i64 0]) ∧ Below w.heap.size w w'


set_option maxRecDepth 10000 in
set_option maxHeartbeats 1600000 in
theorem known_any (w : World) (hT : Tab w) : Calls Tryd.prog 7 #[] w fun e w' => e = .returned (.bool true) ∧ Below w.heap.size w w' := by
  obtain ⟨i0, hi0, hz0, hz1, hz2⟩ := info_parts info8
  have hT1 : ∀ o, Tab (w.alloc o) := fun o => hT.below ((Below.refl _ _).alloc (Nat.le_refl _) o) hT.lt
  have hTB : 1 < w.heap.size := hT.lt
  have HT := Lib.hid hT
  have HP1 := Lib.hid (k_put1 (some ⟨w.heap.size, 0, none⟩) 2 (w.alloc (.cells #[.int .u8 1, .int .u8 2] 5)) (sv_block w _ _ _ (by simp)) (hT1 _))
  have hb0 : Below w.heap.size w (w.alloc (.cells #[.int .u8 1, .int .u8 2] 5)) := (Below.refl _ _).alloc (Nat.le_refl _) _
  have HB0 := Lib.hid hb0
  clear hT hT1 hb0
  go_enter Tryd.func7, Tryd.ntmps7
  go_wp2_with fail
  refine HP1.out.mono ?_
  rintro e w1 ⟨A1, c1, rfl, _, _, hown1, hb1⟩
  have HB1 := Lib.hid (HB0.out.trans (hb1.mono HB0.out.size))
  have HS1 : Hid (Sl w1 w1.heap.size A1 _) := Sv.of_own hown1
  have HT1 := Lib.hid (HT.out.below HB1.out hTB)
  clear hown1 hb1 HP1 HB0
  have HP2 := Lib.hid (k_put2 (some ⟨w1.heap.size, 0, none⟩) 1 (w1.alloc (.cells #[.int .u8 5] 5)) (sv_block w1 _ _ _ (by simp)) (HT1.out.below ((Below.refl _ _).alloc (Nat.le_refl _) _) HT1.out.lt))
  have HB2 := Lib.hid (HB1.out.alloc HB1.out.size (.cells #[.int .u8 5] 5))
  have HS12 := Lib.hid (HS1.out.keep (w' := w1.alloc (.cells #[.int .u8 5] 5)) (Nat.le_refl _) (fun p hp => World.cell?_alloc_lt w1 _ p hp))
  have hz12 : w1.heap.size ≤ (w1.alloc (.cells #[.int .u8 5] 5)).heap.size := by simp
  clear HS1 HB1
  go_wp2_with fail
  refine HP2.out.mono ?_
  rintro e w3 ⟨A3, c3, rfl, _, _, hown3, hb3⟩
  have HB3 := Lib.hid (HB2.out.trans (hb3.mono HB2.out.size))
  have hs13 := HS12.out.below (hb3.mono hz12)
  have hstr1 := run_string_sl (P := Tryd.prog) w3 22 9 5 Tryd.underlying22 Tryd.underlying5 Tryd.underlying9 _ A1 16 c1 _ hs13 rfl
  have hstr3 := run_string_sl (P := Tryd.prog) w3 22 9 5 Tryd.underlying22 Tryd.underlying5 Tryd.underlying9 _ A3 3 c3 _ (Sv.of_own hown3) rfl
  rw [show strB [195, 0, 0, 0, 1, 2, 1, 2, 0, 0, 68, 142, 0, 0, 0, 2] = { data := #[195, 0, 0, 0, 1, 2, 1, 2, 0, 0, 68, 142, 0, 0, 0, 2] } from rfl] at hstr1
  rw [show strB [68, 5, 2] = { data := #[68, 5, 2] } from rfl] at hstr3
  clear hown3 hs13 hb3 HP2 HB2 HS12
  have hO4 := own_one (w := w3) (B := w3.heap.size) 65 (Nat.le_refl _)
  go_upto_region 6 with (at_builtin; refine wpList_append_zeros _ rfl _ _ _ _ rfl w3.heap.size 5 i0 _ (.int .u8 0) .i64 .i64 Tryd.underlying22 Tryd.underlying3 hi0 hz0 hz1 hz2 rfl rfl _ _ _ rfl hO4 20 rfl (by omega) (by unfold maxLen; simp) (by simp) (by simp) ?_; intro v4 w4 hown4 hg4)
  have hownA : w4.ownsRow w3.heap.size 5 1 v4 21 (kA.map cell8) := by
    have h := hown4
    rw [rep_cell, ← List.map_append] at h
    exact h
  obtain ⟨A4, c4, rfl, hc4, hm4⟩ := own_form hownA
  have HS4 : Hid (Sl w4 w4.heap.size A4 kA) := Sv.of_own hownA
  have HB4 := Lib.hid ((HB3.out.alloc HB3.out.size (.cells #[cell8 65] 5)).grown hg4 (by have := HB3.out.size; simp; omega) (fun k hk => by obtain rfl := Option.some.inj hk; exact HB3.out.size))
  clear hownA hown4 hg4 hO4 HB3 hstr1 hstr3
  have HE1 := Lib.hid (split_err k_a1 (by omega) A4 21 c4 w4 rfl HS4.out hc4 hm4 (by omega))
  go_upto_region 7 with (go_at_call 11; refine HE1.out.mono ?_; rintro e w5 ⟨rfl, hb5⟩)
  have HB5 := Lib.hid (HB4.out.trans (hb5.mono HB4.out.size))
  have hsz5 := hb5.size
  have HB6 := Lib.hid (HB5.out.alloc HB5.out.size (.cells #[.int .u8 0, .slice none 0 0, .slice none 0 0, .slice none 0 0, .int .i64 0, .slice none 0 0] 33))
  have hs6 : Sl (w5.alloc (.cells #[.int .u8 0, .slice none 0 0, .slice none 0 0, .slice none 0 0, .int .i64 0, .slice none 0 0] 33)) (w5.alloc (.cells #[.int .u8 0, .slice none 0 0, .slice none 0 0, .slice none 0 0, .int .i64 0, .slice none 0 0] 33)).heap.size A4 kA :=
    (HS4.out.below hb5).keep (by simp; omega) (fun p hp => World.cell?_alloc_lt w5 _ p (by omega))
  generalize w5.alloc (.cells #[.int .u8 0, .slice none 0 0, .slice none 0 0, .slice none 0 0, .int .i64 0, .slice none 0 0] 33) = w6 at *
  have HE2 : Hid (Calls Tryd.prog 11 #[.slice A4 21 c4, .int .i64 0] w6 (KS0 w6)) := k_split0 A4 c4 w6 hs6 hc4 hm4
  clear hs6 hb5 HE1 HB5
  go_upto_region 8 with (go_at_call 11; refine HE2.out.mono ?_; rintro e w7 ⟨B1, n1, d1, B2, n2, d2, B3, n3, d3, B4, B5, rfl, hb7⟩)
  have HB7 := Lib.hid (HB6.out.trans (hb7.mono HB6.out.size))
  have HB8 := Lib.hid (HB7.out.alloc HB7.out.size (.cells #[.int .u8 2, .slice B1 n1 d1, .slice B2 n2 d2, .slice B3 n3 d3, .int .i64 1, .slice B4 21 21] 33))
  have HW8 := Lib.hid (Wh.new w7 33 #[.int .u8 2, .slice B1 n1 d1, .slice B2 n2 d2, .slice B3 n3 d3, .int .i64 1, .slice B4 21 21])
  have hlt8 : w7.heap.size < (w7.alloc (.cells #[.int .u8 2, .slice B1 n1 d1, .slice B2 n2 d2, .slice B3 n3 d3, .int .i64 1, .slice B4 21 21] 33)).heap.size := by simp
  clear hb7 HE2 HB6 HB7
  generalize w7.alloc (.cells #[.int .u8 2, .slice B1 n1 d1, .slice B2 n2 d2, .slice B3 n3 d3, .int .i64 1, .slice B4 21 21] 33) = w8 at *
  go_wp2_with (at_make; (refine wpList_make_full _ rfl _ _ _ rfl w8.heap.size 5 i0 _ 1 Tryd.underlying22 hi0 hz0 hz1 _ _ _ _ 31 rfl rfl rfl rfl (by rw [hz2]; omega) (by unfold maxLen; omega) (Nat.le_refl _) ?_); intro w9 hown9 hg9)
  have HE3 := k_z_use hown9
  have HB9 := Lib.hid (HB8.out.grown hg9 HB8.out.size (by simp))
  have HW9 := Lib.hid (HW8.out.grown hg9 (by simp))
  clear hown9 hg9 HB8 HW8
  go_upto_region 9 with (go_at_call 11; refine HE3.out.mono ?_; rintro e w10 ⟨rfl, hb10⟩)
  have HB10 := Lib.hid ((HB9.out.trans (hb10.mono HB9.out.size)).alloc (Nat.le_trans HB9.out.size hb10.size) (.cells #[.int .u8 0, .slice none 0 0, .slice none 0 0, .slice none 0 0, .int .i64 0, .slice none 0 0] 33))
  have HW10 := Lib.hid ((HW9.out.below hb10 HW9.out.lt).alloc (.cells #[.int .u8 0, .slice none 0 0, .slice none 0 0, .slice none 0 0, .int .i64 0, .slice none 0 0] 33))
  clear hb10 HB9 HW9 HE3
  generalize w10.alloc (.cells #[.int .u8 0, .slice none 0 0, .slice none 0 0, .slice none 0 0, .int .i64 0, .slice none 0 0] 33) = w11 at *
  have hO11 : (w11.alloc (.cells #[.int .u8 211, .int .u8 0, .int .u8 0, .int .u8 0, .int .u8 1] 5)).ownsRow w11.heap.size 5 1 (.slice (some ⟨w11.heap.size, 0, none⟩) 5 5) 5 (([211, 0, 0, 0, 1] : List UInt8).map cell8) :=
    ⟨rfl, .inr ⟨w11.heap.size, 5, #[.int .u8 211, .int .u8 0, .int .u8 0, .int .u8 0, .int .u8 1], rfl, Nat.le_refl _, heap_alloc_new w11 _, Nat.le_refl _, by unfold maxLen; omega, rfl, rfl⟩⟩
  have HB11 := Lib.hid (HB10.out.alloc HB10.out.size (.cells #[.int .u8 211, .int .u8 0, .int .u8 0, .int .u8 0, .int .u8 1] 5))
  have HW11 := Lib.hid (HW10.out.alloc (.cells #[.int .u8 211, .int .u8 0, .int .u8 0, .int .u8 0, .int .u8 1] 5))
  have hlt11 := HW10.out.lt
  have hle11 := HB10.out.size
  go_upto_region 10 with (first
    | (at_builtin; refine wpList_append_zeros _ rfl _ _ _ _ rfl w11.heap.size 5 i0 _ (.int .u8 0) .i64 .i64 Tryd.underlying22 Tryd.underlying3 hi0 hz0 hz1 hz2 rfl rfl _ _ _ rfl hO11 30 rfl (by omega) (by unfold maxLen; omega) (by omega) (by simp) ?_; intro v12 w12 hown12 hg12; obtain ⟨A12, c12, rfl, HE4⟩ := k_b_use hown12)
    | (go_at_call 11; refine HE4.out.mono ?_; rintro e w13 ⟨rfl, hb13⟩))
  have hne12 : some w7.heap.size ≠ (Value.slice (some ⟨w11.heap.size, 0, none⟩) 5 5).ownBlock := fun e => by
    have h : w7.heap.size = w11.heap.size := Option.some.inj e
    omega
  have hW12 := HW11.out.grown hg12 hne12
  have hB12 := HB11.out.grown hg12 HB11.out.size (fun k hk => by obtain rfl := Option.some.inj hk; exact hle11)
  have HW13 := Lib.hid ((hW12.below hb13 hW12.lt).alloc (.cells #[.int .u8 0, .slice none 0 0, .slice none 0 0, .slice none 0 0, .int .i64 0, .slice none 0 0] 33))
  have HB13 := Lib.hid ((hB12.trans (hb13.mono hB12.size)).alloc (Nat.le_trans hB12.size hb13.size) (.cells #[.int .u8 0, .slice none 0 0, .slice none 0 0, .slice none 0 0, .int .i64 0, .slice none 0 0] 33))
  clear hW12 hB12 hb13 hg12 hown12 HE4 hO11 HB11 HW11 HB10 HW10
  generalize w13.alloc (.cells #[.int .u8 0, .slice none 0 0, .slice none 0 0, .slice none 0 0, .int .i64 0, .slice none 0 0] 33) = w14 at *
  have e0 : w14.cell? ⟨w7.heap.size, 0, none⟩ = some (.int .u8 2) := HW13.out.cell 0
  have e4 : w14.cell? ⟨w7.heap.size, 4, none⟩ = some (.int .i64 1) := HW13.out.cell 4
  have e5 : w14.cell? ⟨w7.heap.size, 5, none⟩ = some (.slice B4 21 21) := HW13.out.cell 5
  go_wp2_with (first
    | (go_at_call_of 10 (Value.int IntKind.u8 2); refine (bits_any 2 _ true rfl).mono ?_; rintro e w' ⟨rfl, hw'⟩; subst hw')
    | (go_at_call_of 10 (Value.int IntKind.u8 0); refine (bits_any 0 _ false rfl).mono ?_; rintro e w' ⟨rfl, hw'⟩; subst hw'))
  go_ret
  exact ⟨rfl, HB13.out⟩

end Go.Proofs.YtpnpbjdkldmmdaaDoor
