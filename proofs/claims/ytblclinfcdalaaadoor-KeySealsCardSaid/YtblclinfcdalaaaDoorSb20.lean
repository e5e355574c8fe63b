/-
  The walks through head.Put and head.Bits.
  key.maskOf, (key.mask).first.
-/
import Derived.Test.YtblclinfcdalaaaDoorHPut
import Derived.Test.YtblclinfcdalaaaDoorSb3
import Derived.Test.YtblclinfcdalaaaDoorSb5
import Derived.Test.YtblclinfcdalaaaDoorSb6
import Derived.Test.YtblclinfcdalaaaDoorSb12
namespace Go.Proofs.YtblclinfcdalaaaDoor
section
open Go.RowKit
set_option linter.unusedVariables false

/-- The bytes ahead of a payload of n bytes. -/
def headB (sp k : Nat) (dst src tok : List UInt8) (ph : Bool) (pn n : Nat) : List UInt8 :=
  UInt8.ofNat (firstB sp k ph) :: ((if sp = 2 then dst else longB sp dst src tok (k + n)) ++ be pn k)

set_option maxRecDepth 10000 in
set_option maxHeartbeats 400000 in
theorem bits_any (sp : Nat) (w : World) (b : Bool) (hb : ((sp : Int) == 2) = b) : Calls Tryd.prog 72 #[.int .u8 (sp : Int)] w fun e w' => e = .returned (.int .u8 (if b then 31 else 15)) ∧ w' = w := by
  cases b
  all_goals
    go_enter Tryd.func72, Tryd.ntmps72
    go_wp2
    go_ret
    exact ⟨rfl, rfl⟩

theorem own_one {w : World} {B : Nat} (x : UInt8) (hB : B ≤ w.heap.size) : (w.alloc (.cells #[cell8 x] 5)).ownsRow B 5 1 (.slice (some ⟨w.heap.size, 0, none⟩) 1 1) [x].length ([x].map cell8) :=
  ⟨rfl, .inr ⟨w.heap.size, 1, #[cell8 x], rfl, hB, heap_alloc_new w _, Nat.le_refl _, by unfold maxLen; omega, rfl, rfl⟩⟩

/-- What Put answers. -/
def HPutGave (w : World) (sp : Nat) (dst src tok : List UInt8) (ph : Bool) (pn : Nat) (pnb n : Int) (e : Ending) (w' : World) : Prop :=
  ((mayB sp dst.length src.length tok.length ph (pn : Int) pnb = true ∧ 0 ≤ n ∧ n ≤ 65536) → Gave w (headB sp pnb.toNat dst src tok ph pn n.toNat) (fun v => .tuple #[v, .int .i64 0]) e w') ∧
  (¬ (mayB sp dst.length src.length tok.length ph (pn : Int) pnb = true ∧ 0 ≤ n ∧ n ≤ 65536) → e = .returned (.tuple #[.slice none 0 0, .int .i64 2]) ∧ Below w.heap.size w w')

set_option maxRecDepth 10000 in
set_option maxHeartbeats 1600000 in
theorem hput_bad (sp : Nat) (dst src tok : List UInt8) (ph : Bool) (pn : Nat) (pnb n : Int) (A1 : Option Addr) (c1 : Nat) (A2 : Option Addr) (c2 : Nat) (A3 : Option Addr) (c3 : Nat) (w : World)
    (hbad : ¬ (mayB sp dst.length src.length tok.length ph (pn : Int) pnb = true ∧ 0 ≤ n ∧ n ≤ 65536)) :
    Calls Tryd.prog 32 #[.agg (headC sp A1 dst.length c1 A2 src.length c2 A3 tok.length c3 ph (pn : Int) pnb), .int .i64 n] w fun e w' => e = .returned (.tuple #[.slice none 0 0, .int .i64 2]) ∧ Below w.heap.size w w' := by
  have hb1 : Below w.heap.size w (w.alloc (.cells (headC sp A1 dst.length c1 A2 src.length c2 A3 tok.length c3 ph (pn : Int) pnb) 39)) := (Below.refl _ _).alloc (Nat.le_refl _) _
  have hz1 : w.heap.size ≤ (w.alloc (.cells (headC sp A1 dst.length c1 A2 src.length c2 A3 tok.length c3 ph (pn : Int) pnb) 39)).heap.size := by simp
  have HM := Lib.hid (hmay_any sp dst.length src.length tok.length ph A1 c1 A2 c2 A3 c3 (pn : Int) pnb)
  have HB1 := Lib.hid hb1
  have hcase : mayB sp dst.length src.length tok.length ph (pn : Int) pnb = false ∨ (mayB sp dst.length src.length tok.length ph (pn : Int) pnb = true ∧ n < 0) ∨ (mayB sp dst.length src.length tok.length ph (pn : Int) pnb = true ∧ 65536 < n) := by
    cases hm : mayB sp dst.length src.length tok.length ph (pn : Int) pnb
    · exact .inl rfl
    · rw [hm] at hbad
      by_cases h0 : n < 0
      · exact .inr (.inl ⟨rfl, h0⟩)
      · refine .inr (.inr ⟨rfl, ?_⟩)
        by_cases h1 : n ≤ 65536
        · exact absurd ⟨rfl, by omega, h1⟩ hbad
        · omega
  clear hbad hb1
  generalize mayB sp dst.length src.length tok.length ph (pn : Int) pnb = mb at *
  rcases hcase with rfl | ⟨rfl, h0⟩ | ⟨rfl, h0⟩
  all_goals
    unfold headC
    go_enter Tryd.func32, Tryd.ntmps32
    go_wp2_with fail
    refine (HM.out _).mono ?_
    rintro e w1 ⟨rfl, hb2⟩
    have HB2 := Lib.hid (HB1.out.trans (hb2.mono hz1))
    clear hb2
    go_wp2
    go_ret2
    exact ⟨rfl, HB2.out⟩

set_option maxRecDepth 10000 in
set_option maxHeartbeats 1600000 in
theorem hput_ok (sp k n pn : Nat) (dst src tok : List UInt8) (ph : Bool) (A1 : Option Addr) (c1 : Nat) (A2 : Option Addr) (c2 : Nat) (A3 : Option Addr) (c3 : Nat) (w : World)
    (hmay : mayB sp dst.length src.length tok.length ph (pn : Int) (k : Int) = true) (hn : n ≤ 65536) (h1 : Sl w w.heap.size A1 dst) (h2 : Sl w w.heap.size A2 src) (h3 : Sl w w.heap.size A3 tok) (ht : tok.length ≤ 3000) (hT : Tab w)
    (hsp : sp = 0 ∨ sp = 1 ∨ sp = 2) (hk : k = 1 ∨ k = 2 ∨ k = 3 ∨ k = 4) (hd : dst.length ≤ 20) (hs : src.length ≤ 20) :
    Calls Tryd.prog 32 #[.agg (headC sp A1 dst.length c1 A2 src.length c2 A3 tok.length c3 ph (pn : Int) (k : Int)), .int .i64 (n : Int)] w (Gave w (headB sp k dst src tok ph pn n) fun v => .tuple #[v, .int .i64 0]) := by
  obtain ⟨i0, hi0, hz0, hz1, hz2⟩ := info_parts info8V
  have hz : (w.alloc (.cells (headC sp A1 dst.length c1 A2 src.length c2 A3 tok.length c3 ph (pn : Int) (k : Int)) 39)).heap.size = w.heap.size + 1 := by simp
  have hb0 : Below w.heap.size w (w.alloc (.cells (headC sp A1 dst.length c1 A2 src.length c2 A3 tok.length c3 ph (pn : Int) (k : Int)) 39)) := (Below.refl _ _).alloc (Nat.le_refl _) _
  have hW0 : Wh (w.alloc (.cells (headC sp A1 dst.length c1 A2 src.length c2 A3 tok.length c3 ph (pn : Int) (k : Int)) 39)) w.heap.size 39 (headC sp A1 dst.length c1 A2 src.length c2 A3 tok.length c3 ph (pn : Int) (k : Int)) := Wh.new _ _ _
  have H1 : Hid (Sl (w.alloc (.cells (headC sp A1 dst.length c1 A2 src.length c2 A3 tok.length c3 ph (pn : Int) (k : Int)) 39)) (w.heap.size + 1) A1 dst) := h1.keep (Nat.le_succ _) fun p hp => hb0.cell hp
  have H2 : Hid (Sl (w.alloc (.cells (headC sp A1 dst.length c1 A2 src.length c2 A3 tok.length c3 ph (pn : Int) (k : Int)) 39)) (w.heap.size + 1) A2 src) := h2.keep (Nat.le_succ _) fun p hp => hb0.cell hp
  have H3 : Hid (Sl (w.alloc (.cells (headC sp A1 dst.length c1 A2 src.length c2 A3 tok.length c3 ph (pn : Int) (k : Int)) 39)) (w.heap.size + 1) A3 tok) := h3.keep (Nat.le_succ _) fun p hp => hb0.cell hp
  have hTB : 2 < w.heap.size := hT.lt
  have HT := Lib.hid (hT.below hb0 hT.lt)
  have HM := Lib.hid (hmay_any sp dst.length src.length tok.length ph A1 c1 A2 c2 A3 c3 (pn : Int) (k : Int) (w.alloc (.cells (headC sp A1 dst.length c1 A2 src.length c2 A3 tok.length c3 ph (pn : Int) (k : Int)) 39)))
  rw [hmay] at HM
  have HF := Lib.hid (fun w => firstByte_any sp k ph A1 dst.length c1 A2 src.length c2 A3 tok.length c3 (pn : Int) w hsp hk)
  have HB0 := Lib.hid hb0
  have HW0 := Lib.hid hW0
  have hx : firstB sp k ph ≤ 255 := by
    unfold firstB
    rcases hsp with rfl | rfl | rfl <;> rcases hk with rfl | rfl | rfl | rfl <;> cases ph <;> decide
  have HH : Hid (headB sp k dst src tok ph pn n = UInt8.ofNat (firstB sp k ph) :: ((if sp = 2 then dst else longB sp dst src tok (k + n)) ++ be pn k)) := rfl
  have HLL : Hid ((longB sp dst src tok (k + n)).length ≤ 4000) := by
    show _ ≤ _
    unfold longB
    have e1 := szN_le tok.length
    have e2 := szN_le (k + n)
    split <;> simp [enc_length] <;> omega
  generalize headB sp k dst src tok ph pn n = HD at *
  generalize firstB sp k ph = x at *
  have hk4 : k ≤ 4 := by omega
  clear hmay h1 h2 h3 hT hb0 hW0 hk
  unfold headC
  go_enter Tryd.func32, Tryd.ntmps32
  go_wp2_with fail
  change Calls _ _ _ (w.alloc (.cells (headC sp A1 dst.length c1 A2 src.length c2 A3 tok.length c3 ph (pn : Int) (k : Int)) 39)) _
  generalize (w.alloc (.cells (headC sp A1 dst.length c1 A2 src.length c2 A3 tok.length c3 ph (pn : Int) (k : Int)) 39)) = w0 at *
  refine HM.out.mono ?_
  rintro e w2 ⟨rfl, hb2⟩
  have HB2 := Lib.hid (hb2.mono (show w.heap.size + 1 ≤ w0.heap.size by omega))
  have hW2 := HW0.out.below hb2 (by omega)
  have e0 : w2.cell? ⟨w.heap.size, 0, none⟩ = some (.int .u8 (sp : Int)) := hW2.cell 0
  have e1 : w2.cell? ⟨w.heap.size, 1, none⟩ = some (.slice A1 dst.length c1) := hW2.cell 1
  have e2 : w2.cell? ⟨w.heap.size, 2, none⟩ = some (.slice A2 src.length c2) := hW2.cell 2
  have e3 : w2.cell? ⟨w.heap.size, 3, none⟩ = some (.slice A3 tok.length c3) := hW2.cell 3
  have e4 : w2.cell? ⟨w.heap.size, 4, none⟩ = some (.bool ph) := hW2.cell 4
  have e5 : w2.cell? ⟨w.heap.size, 5, none⟩ = some (.int .u64 (pn : Int)) := hW2.cell 5
  have e6 : w2.cell? ⟨w.heap.size, 6, none⟩ = some (.int .i64 (k : Int)) := hW2.cell 6
  have HW2 := Lib.hid hW2
  have hs2 := hb2.size
  clear hb2 hW2 HM HW0
  go_wp2_with fail
  refine (HF.out w2).mono ?_
  rintro e w3 ⟨rfl, hb3⟩
  have hs3 := hb3.size
  have hW3 := HW2.out.below hb3 HW2.out.lt
  have hP4 : PB w0 (w3.alloc (.cells #[.int .u8 (x : Int)] 5)) (w.heap.size + 1) w.heap.size (headC sp A1 dst.length c1 A2 src.length c2 A3 tok.length c3 ph (pn : Int) (k : Int)) (.slice (some ⟨w3.heap.size, 0, none⟩) 1 1) [UInt8.ofNat x] := by
    have ho := own_one (w := w3) (B := w.heap.size + 1) (UInt8.ofNat x) (by omega)
    rw [← byte_len x hx] at ho
    exact ⟨ho, (HB2.out.trans (hb3.mono (by omega))).alloc (by omega) _, hW3.alloc _, own_type ho (hW3.alloc _) (by decide), by omega⟩
  have HP4 := Lib.hid hP4
  clear hb3 hW3 hP4 e0 e1 e2 e3 e4 e5 e6 HB2 HW2 HF
  go_upto_region 4 with fail
  generalize w3.alloc (.cells #[.int .u8 (x : Int)] 5) = w4 at *
  have e0 : w4.cell? ⟨w.heap.size, 0, none⟩ = some (.int .u8 (sp : Int)) := HP4.out.box.cell 0
  have e1 : w4.cell? ⟨w.heap.size, 1, none⟩ = some (.slice A1 dst.length c1) := HP4.out.box.cell 1
  have e2 : w4.cell? ⟨w.heap.size, 2, none⟩ = some (.slice A2 src.length c2) := HP4.out.box.cell 2
  have e3 : w4.cell? ⟨w.heap.size, 3, none⟩ = some (.slice A3 tok.length c3) := HP4.out.box.cell 3
  have e4 : w4.cell? ⟨w.heap.size, 4, none⟩ = some (.bool ph) := HP4.out.box.cell 4
  have e5 : w4.cell? ⟨w.heap.size, 5, none⟩ = some (.int .u64 (pn : Int)) := HP4.out.box.cell 5
  have e6 : w4.cell? ⟨w.heap.size, 6, none⟩ = some (.int .i64 (k : Int)) := HP4.out.box.cell 6
  rcases hsp with rfl | rfl | rfl
  rotate_left 2
  · go_upto_region 7 with (at_builtin; refine wpList_append_sv _ rfl _ _ _ rfl (w.heap.size + 1) 5 i0 _ 1 Tryd.underlying23 hi0 hz0 hz1 hz2 rfl _ _ _ rfl HP4.out.own (w.heap.size + 1) _ dst.length _ (dst.map cell8) rfl (HP4.out.sl H1.out) (by simp) (cell8_one dst) (by unfold maxLen; simp; omega) (by simp; omega) HP4.out.hBw ?_; intro v5 w5 hown5 hg5 _)
    have HP5 := Lib.hid (HP4.out.app (d := dst) hown5 rfl hg5)
    clear hown5 hg5 HP4 e0 e1 e2 e3 e4 e5 e6
    have HPN := Lib.hid (putNumber_any (w.heap.size + 1) k pn v5 ([UInt8.ofNat x] ++ dst) 2 ph A1 dst.length c1 A2 src.length c2 A3 tok.length c3 w5 HP5.out.own HP5.out.hBw hk4 (by have := HLL.out; simp; omega))
    have hbel5 := HP5.out.bel
    have hHD : HD = [UInt8.ofNat x] ++ dst ++ be pn k := by rw [HH.out]; simp
    have HHD := Lib.hid hHD
    have HB5 := Lib.hid hbel5
    clear hHD hbel5 HH
    have e0 : w5.cell? ⟨w.heap.size, 0, none⟩ = some (.int .u8 2) := HP5.out.box.cell 0
    have e1 : w5.cell? ⟨w.heap.size, 1, none⟩ = some (.slice A1 dst.length c1) := HP5.out.box.cell 1
    have e2 : w5.cell? ⟨w.heap.size, 2, none⟩ = some (.slice A2 src.length c2) := HP5.out.box.cell 2
    have e3 : w5.cell? ⟨w.heap.size, 3, none⟩ = some (.slice A3 tok.length c3) := HP5.out.box.cell 3
    have e4 : w5.cell? ⟨w.heap.size, 4, none⟩ = some (.bool ph) := HP5.out.box.cell 4
    have e5 : w5.cell? ⟨w.heap.size, 5, none⟩ = some (.int .u64 (pn : Int)) := HP5.out.box.cell 5
    have e6 : w5.cell? ⟨w.heap.size, 6, none⟩ = some (.int .i64 (k : Int)) := HP5.out.box.cell 6
    clear HP5
    go_wp2_with fail
    refine HPN.out.mono ?_
    rintro e w6 ⟨v6, rfl, hown6, hb6⟩
    rw [← HHD.out] at hown6
    go_wp2
    obtain ⟨A6, c6, rfl, q1, q2⟩ := own_form hown6
    go_ret2
    exact ⟨A6, c6, rfl, q1, q2, hown_base hown6 (Nat.le_succ _), HB0.out.trans ((HB5.out.trans hb6).mono (Nat.le_succ _))⟩
  rotate_left 1
  · go_wp2_with fail
    have HPL := Lib.hid (putLong_any (w.heap.size + 1) 1 k pn n (.slice (some ⟨w3.heap.size, 0, none⟩) 1 1) [UInt8.ofNat x] dst src tok ph A1 c1 A2 c2 A3 c3 w4 HP4.out.own HP4.out.hBw (HP4.out.sl H1.out) (HP4.out.sl H2.out) (HP4.out.sl H3.out) hd hs ht (by simp) hk4 hn (by simp) (HT.out.below HP4.out.bel (by omega)) (by omega))
    refine HPL.out.mono ?_
    rintro e w5 ⟨v5, rfl, hown5, hb5⟩
    have hW5 := HP4.out.box.below hb5 (Nat.lt_succ_self _)
    have HP5 : Hid (PB w0 w5 (w.heap.size + 1) w.heap.size (headC 1 A1 dst.length c1 A2 src.length c2 A3 tok.length c3 ph (pn : Int) (k : Int)) v5 ([UInt8.ofNat x] ++ longB 1 dst src tok (k + n))) :=
      ⟨hown5, HP4.out.bel.trans hb5, hW5, own_type hown5 hW5 (by decide), HP4.out.hB⟩
    clear hown5 hb5 hW5 HP4 e0 e1 e2 e3 e4 e5 e6 HPL
    have HPN := Lib.hid (putNumber_any (w.heap.size + 1) k pn v5 ([UInt8.ofNat x] ++ longB 1 dst src tok (k + n)) 1 ph A1 dst.length c1 A2 src.length c2 A3 tok.length c3 w5 HP5.out.own HP5.out.hBw hk4 (by have := HLL.out; simp; omega))
    have hbel5 := HP5.out.bel
    have hHD : HD = [UInt8.ofNat x] ++ longB 1 dst src tok (k + n) ++ be pn k := by rw [HH.out]; simp
    have HHD := Lib.hid hHD
    have HB5 := Lib.hid hbel5
    clear hHD hbel5 HH
    have e0 : w5.cell? ⟨w.heap.size, 0, none⟩ = some (.int .u8 1) := HP5.out.box.cell 0
    have e1 : w5.cell? ⟨w.heap.size, 1, none⟩ = some (.slice A1 dst.length c1) := HP5.out.box.cell 1
    have e2 : w5.cell? ⟨w.heap.size, 2, none⟩ = some (.slice A2 src.length c2) := HP5.out.box.cell 2
    have e3 : w5.cell? ⟨w.heap.size, 3, none⟩ = some (.slice A3 tok.length c3) := HP5.out.box.cell 3
    have e4 : w5.cell? ⟨w.heap.size, 4, none⟩ = some (.bool ph) := HP5.out.box.cell 4
    have e5 : w5.cell? ⟨w.heap.size, 5, none⟩ = some (.int .u64 (pn : Int)) := HP5.out.box.cell 5
    have e6 : w5.cell? ⟨w.heap.size, 6, none⟩ = some (.int .i64 (k : Int)) := HP5.out.box.cell 6
    clear HP5
    go_wp2_with fail
    refine HPN.out.mono ?_
    rintro e w6 ⟨v6, rfl, hown6, hb6⟩
    rw [← HHD.out] at hown6
    go_wp2
    obtain ⟨A6, c6, rfl, q1, q2⟩ := own_form hown6
    go_ret2
    exact ⟨A6, c6, rfl, q1, q2, hown_base hown6 (Nat.le_succ _), HB0.out.trans ((HB5.out.trans hb6).mono (Nat.le_succ _))⟩
  · go_wp2_with fail
    have HPL := Lib.hid (putLong_any (w.heap.size + 1) 0 k pn n (.slice (some ⟨w3.heap.size, 0, none⟩) 1 1) [UInt8.ofNat x] dst src tok ph A1 c1 A2 c2 A3 c3 w4 HP4.out.own HP4.out.hBw (HP4.out.sl H1.out) (HP4.out.sl H2.out) (HP4.out.sl H3.out) hd hs ht (by simp) hk4 hn (by simp) (HT.out.below HP4.out.bel (by omega)) (by omega))
    refine HPL.out.mono ?_
    rintro e w5 ⟨v5, rfl, hown5, hb5⟩
    have hW5 := HP4.out.box.below hb5 (Nat.lt_succ_self _)
    have HP5 : Hid (PB w0 w5 (w.heap.size + 1) w.heap.size (headC 0 A1 dst.length c1 A2 src.length c2 A3 tok.length c3 ph (pn : Int) (k : Int)) v5 ([UInt8.ofNat x] ++ longB 0 dst src tok (k + n))) :=
      ⟨hown5, HP4.out.bel.trans hb5, hW5, own_type hown5 hW5 (by decide), HP4.out.hB⟩
    clear hown5 hb5 hW5 HP4 e0 e1 e2 e3 e4 e5 e6 HPL
    have HPN := Lib.hid (putNumber_any (w.heap.size + 1) k pn v5 ([UInt8.ofNat x] ++ longB 0 dst src tok (k + n)) 0 ph A1 dst.length c1 A2 src.length c2 A3 tok.length c3 w5 HP5.out.own HP5.out.hBw hk4 (by have := HLL.out; simp; omega))
    have hbel5 := HP5.out.bel
    have hHD : HD = [UInt8.ofNat x] ++ longB 0 dst src tok (k + n) ++ be pn k := by rw [HH.out]; simp
    have HHD := Lib.hid hHD
    have HB5 := Lib.hid hbel5
    clear hHD hbel5 HH
    have e0 : w5.cell? ⟨w.heap.size, 0, none⟩ = some (.int .u8 0) := HP5.out.box.cell 0
    have e1 : w5.cell? ⟨w.heap.size, 1, none⟩ = some (.slice A1 dst.length c1) := HP5.out.box.cell 1
    have e2 : w5.cell? ⟨w.heap.size, 2, none⟩ = some (.slice A2 src.length c2) := HP5.out.box.cell 2
    have e3 : w5.cell? ⟨w.heap.size, 3, none⟩ = some (.slice A3 tok.length c3) := HP5.out.box.cell 3
    have e4 : w5.cell? ⟨w.heap.size, 4, none⟩ = some (.bool ph) := HP5.out.box.cell 4
    have e5 : w5.cell? ⟨w.heap.size, 5, none⟩ = some (.int .u64 (pn : Int)) := HP5.out.box.cell 5
    have e6 : w5.cell? ⟨w.heap.size, 6, none⟩ = some (.int .i64 (k : Int)) := HP5.out.box.cell 6
    clear HP5
    go_wp2_with fail
    refine HPN.out.mono ?_
    rintro e w6 ⟨v6, rfl, hown6, hb6⟩
    rw [← HHD.out] at hown6
    go_wp2
    obtain ⟨A6, c6, rfl, q1, q2⟩ := own_form hown6
    go_ret2
    exact ⟨A6, c6, rfl, q1, q2, hown_base hown6 (Nat.le_succ _), HB0.out.trans ((HB5.out.trans hb6).mono (Nat.le_succ _))⟩
end

section
open Go.RowKit
set_option linter.unusedVariables false

theorem zero_mask (w : World) : (zeroValue 67).run Tryd.prog w = .ok (.agg (aRow (List.replicate 16 0))) w := by kernel_rfl
theorem info_mask : (Tryd.prog.info? 67).map (·.size) = some 16 := by kernel_rfl
theorem info_maskR {l : List UInt8} (h : l.length = 16) : (Tryd.prog.info? 67).map (·.size) = some (aRow l).size := by rw [aRow_size, h]; exact info_mask
/-- What is masked with: the sixteen bytes four behind the number's place. -/
def smpK (b : List UInt8) (a : Nat) : List UInt8 := (b.drop (a + 4)).take 16
theorem smp_len {b : List UInt8} {a : Nat} (h : a + 20 ≤ b.length) : (smpK b a).length = 16 := by rw [smpK, List.length_take, List.length_drop]; omega
def mkK (hp b : List UInt8) (a : Nat) : List UInt8 := seL (ksL hp) (smpK b a)
theorem mk_len (hp b : List UInt8) (a : Nat) : (mkK hp b a).length = 16 := seL_len _ _
theorem wpList_sliceK {P : Program} {ops : Array Oper} {rest : List Oper} {o : Oper} {a : Act} {w : World} {Q : Exit → Act → World → Prop} (hg : o.guard = none) (ty : TypeId) (x : Operand) (lo hi mx : Option Operand) (ho : o.op = .slice ty x lo hi mx) (v : Value)
    (h : (Instr.sliceAt ty (a.eval x) (lo.map a.eval) (hi.map a.eval) (mx.map a.eval)).run P w = .ok v w)
    (hk : wpList P ops Q rest (a.put o.dst v) w) : wpList P ops Q (o :: rest) a w :=
  wpList_plain hg fun _ hK => by
    unfold Oper.wp execOp
    simp only [ho, Sem.run_bind, h, Result.andThen_ok, Sem.run_pure]
    exact hK _ _ hk

set_option maxRecDepth 100000 in
set_option maxHeartbeats 1000000 in
theorem maskOf_any (hp b : List UInt8) (A : Option Addr) (n c a : Nat) (w : World) (hh : hp.length = 16) (hl : b.length = n) (ha : a + 20 ≤ n) (hnc : n ≤ c) (hn : n ≤ 100000000) (hs : Sl w w.heap.size A b) :
    Calls Tryd.prog 35 #[.agg (aRow hp), .slice A n c, .int .i64 (a : Int)] w fun e w' => e = .returned (.agg (aRow (mkK hp b a))) ∧ Below w.heap.size w w' := by
  have HHP := Deep.mk hh
  have HSZ : (aRow hp).size = 16 := by rw [aRow_size, hh]
  obtain ⟨g, off, rfl, hglt, hr⟩ := hs.there (by intro e; rw [e] at hl; simp at hl; omega)
  have hsl := smp_len (b := b) (a := a) (by omega)
  have hsr : w.rangeAt g (off + (a + 4)) ((smpK b a).map cell8) := fun j v hv => by
    rw [smpK, List.map_take, List.map_drop, List.getElem?_take] at hv
    split at hv
    · rw [List.getElem?_drop] at hv
      have := hr (a + 4 + j) v hv
      rwa [show off + (a + 4 + j) = off + (a + 4) + j by omega] at this
    · cases hv
  have hmk : mkK hp b a = seL (ksL hp) (smpK b a) := rfl
  generalize smpK b a = S at *
  have HMK := Deep.mk hmk
  have HSL := Deep.mk hsl
  obtain ⟨hbe, h2, h3⟩ := made2 w (aRow hp) (aRow (List.replicate 16 0)) 26 67
  have HSR := Lib.hid (rangeAt_below hsr hbe hglt)
  have hcut : ∀ w' : World, (Instr.sliceAt 23 (.slice (some ⟨g, off, none⟩) n c) (some (.int .i64 ((a : Int) + 4))) (some (.int .i64 ((a : Int) + 20))) none).run Tryd.prog w' = .ok (.slice (some ⟨g, off + (a + 4), none⟩) 16 (c - (a + 4))) w' := fun w' => by
    rw [show (a : Int) + 4 = ((a + 4 : Nat) : Int) by omega, show (a : Int) + 20 = ((a + 20 : Nat) : Int) by omega, run_cut2 (some ⟨g, off, none⟩) n c (a + 4) (a + 20) (by omega) (by omega) w', cutA, if_neg (by omega), show a + 20 - (a + 4) = 16 by omega]
    rfl
  have HCUT := Deep.mk hcut
  have ham : a ≤ 100000000 := by omega
  have HAC := Lib.hid ha
  clear hh hl hs hr hsr hmk hsl hcut ha hnc hn
  go_enter Tryd.func35, Tryd.ntmps35
  go_upto_region 1 with (refine wpList_allocZ rfl 67 rfl (aRow (List.replicate 16 0)) (zero_mask _) ?_)
  rw [show (w.alloc (.cells (aRow hp) 26)).heap.size = w.heap.size + 1 by simp]
  generalize (w.alloc (.cells (aRow hp) 26)).alloc (.cells (aRow (List.replicate 16 0)) 67) = W at *
  obtain ⟨q, hq⟩ : ∃ b, b = w.heap.size := ⟨_, rfl⟩
  rw [← hq] at h2 h3 ⊢
  obtain ⟨r, hr⟩ : ∃ r, r = q + 1 := ⟨_, rfl⟩
  rw [← hr] at h3 ⊢
  have hwq : w.heap.size ≤ q := by omega
  have hqr : q < r := by omega
  have hgq : g < q := by omega
  have H2 := Lib.hid h2
  have H3 := Lib.hid h3
  have HBE := Lib.hid hbe
  clear hq hr h2 h3 hbe
  go_upto_region 2 with ((with_reducible refine wpList_sliceK rfl 23 (.tmp 8) (some (.tmp 10)) (some (.tmp 12)) none rfl (.slice (some ⟨g, off + (a + 4), none⟩) 16 (c - (a + 4))) ?_ ?_); exact HCUT.out _)
  have h2' : Wh W.drew q 26 (aRow hp) := H2.out.below (Below.refl _ _).drew H2.out.lt
  have h3' : Wh W.drew r 67 (aRow (List.replicate 16 0)) := H3.out.below (Below.refl _ _).drew H3.out.lt
  have hB0 : Below w.heap.size w W.drew := HBE.out.drew
  have hsr0 : W.drew.rangeAt g (off + (a + 4)) (S.map cell8) := rangeAt_below HSR.out ((Below.refl W.heap.size _).drew) (Nat.lt_of_lt_of_le hglt HBE.out.size)
  clear H2 H3 HBE HSR HCUT
  refine wp_region_held_drew (S := fun w' => SinceX r W.drew w') (by kernel_rfl) (SinceX.self _ _) (fun _ => ?_)
  generalize W.drew = w0 at *
  have hr0 : w0.rangeAt q 0 (hp.map cell8) := by have := row_rangeS h2'; rwa [aRow_list] at this
  have hq0 : q < w0.heap.size := h2'.lt
  have hg0 : g < w0.heap.size := Nat.lt_of_lt_of_le hglt hB0.size
  have hqne : q ≠ r := by omega
  have hgne : g ≠ r := by omega
  clear h2'
  refine wpAnyH_take (i := 0) (v := .agg (aRow hp)) (List.getElem?_toArray.trans rfl) (by kernel_rfl) (by kernel_rfl) (by kernel_rfl) (fun _ _ _ h => h) (yieldsIf_load_mid (by rfl) 26 (.tmp 3) rfl q 0 rfl (hp.map cell8) _ (fun w' hS => SinceX.range hS hr0 hq0 hqne) Tryd.underlying26 rfl (by rw [List.length_map, HHP.out]; exact info_k16)) (SinceX.self _ _) ?_
  refine act_normS (by simp only [Act.put, List.setIfInBounds_toArray, List.set_cons_zero, List.set_cons_succ]; rfl) ?_
  refine wpAnyH_take (i := 2) (v := .slice (some ⟨g, off + (a + 4), none⟩) 16 (c - (a + 4))) (List.getElem?_toArray.trans rfl) (by kernel_rfl) (by kernel_rfl) (by kernel_rfl) (fun _ _ _ h => h) (.inl ⟨rfl, fun w' hS => rfl⟩) (SinceX.self _ _) ?_
  refine act_normS (by simp only [Act.put, List.setIfInBounds_toArray, List.set_cons_zero, List.set_cons_succ]; rfl) ?_
  refine wpAnyH_take (i := 3) (v := .pointer (some ⟨g, off + (a + 4), none⟩)) (List.getElem?_toArray.trans rfl) (by kernel_rfl) (by kernel_rfl) (by kernel_rfl) (fun _ _ _ h => h) (yields_arr (by rfl) 26 5 16 (.tmp 16) rfl (some ⟨g, off + (a + 4), none⟩) 16 (c - (a + 4)) rfl Tryd.underlying26 (Nat.le_refl _)) (SinceX.self _ _) ?_
  refine act_normS (by simp only [Act.put, List.setIfInBounds_toArray, List.set_cons_zero, List.set_cons_succ]; rfl) ?_
  refine wpAnyH_take (i := 4) (v := .agg (aRow S)) (List.getElem?_toArray.trans rfl) (by kernel_rfl) (by kernel_rfl) (by kernel_rfl) (fun _ _ _ h => h) (yieldsIf_load_mid (by rfl) 26 (.tmp 17) rfl g (off + (a + 4)) rfl (S.map cell8) _ (fun w' hS => SinceX.range hS hsr0 hg0 hgne) Tryd.underlying26 rfl (by rw [List.length_map, HSL.out]; exact info_k16)) (SinceX.self _ _) ?_
  refine act_normS (by simp only [Act.put, List.setIfInBounds_toArray, List.set_cons_zero, List.set_cons_succ]; rfl) ?_
  refine wpAnyH_ready (rs := [1]) (by kernel_rfl) (by simp) (AllReadyH.cons (List.getElem?_toArray.trans rfl) (fun K' hK => ?_) AllReadyH.nil)
  refine wanted_goS rfl ?_
  go_simp
  refine (new_any hp w0 HHP.out).mono ?_
  rintro e w1 ⟨k, rfl, hk1, hw1, hb1⟩
  have h31 := h3'.below hb1 h3'.lt
  have hB1 := hB0.trans (hb1.mono hB0.size)
  have hS1 : SinceX r w0 w1 := SinceX.of hb1
  refine hK.out _ _ hS1 (fun _ => ?_)
  clear hK K'
  refine wpAnyH_ready (rs := [5]) (by kernel_rfl) (by simp) (AllReadyH.cons (List.getElem?_toArray.trans rfl) (fun K' hK => ?_) AllReadyH.nil)
  refine wanted_goS rfl ?_
  go_simp
  refine (seal_any k (ksL hp) S w1 (ksL_b HHP.out) hw1 HSL.out).mono ?_
  rintro e w2 ⟨rfl, hb2⟩
  rw [← HMK.out]
  have hml : (mkK hp b a).length = 16 := mk_len _ _ _
  generalize hM : mkK hp b a = M at *
  have HM := Deep.mk hM
  clear hM
  have h32 := h31.below hb2 h31.lt
  have hB2 := hB1.trans (hb2.mono hB1.size)
  have hS2 := SinceX.trans hS1 (SinceX.of hb2)
  refine hK.out _ _ hS2 (fun _ => ?_)
  clear hK K'
  obtain ⟨hx, hv⟩ := Wh.over (l := List.replicate 16 0) h32 (by simp) hml
  refine wpAnyH_ready (rs := [6]) (by kernel_rfl) (by simp) (AllReadyH.cons (List.getElem?_toArray.trans rfl) (fun K' hK => ?_) AllReadyH.nil)
  refine wanted_goS rfl ?_
  refine wp_store_mid 67 (.tmp 6) (.tmp 19) rfl r 0 (aRow M) rfl rfl (by rw [aRow_size, hml]; exact Wh.there h32 (by simp)) (info_maskR hml) (aRow_one _) ?_
  rw [aRow_list]
  refine hK.out _ _ (SinceX.put hS2 hv) (fun _ => ?_)
  clear hK K'
  refine wpAnyH_done (by kernel_rfl) ?_ _
  go_wp2_with fail
  refine bodyPost_ret (v := .agg (aRow M)) (results_cell_row Tryd.results35 _ _ r _ _ (0, 0) _ rfl hx Tryd.underlying67 rfl (info_maskR hml)) rfl ?_
  exact ⟨by rw [HM.out], below_grownA hB2 hv (by omega) hB2.size⟩
end
end Go.Proofs.YtblclinfcdalaaaDoor
