/-
  The walks through head.Put and head.Bits.
-/
import Derived.Test.YtbnnjkjmadnjkaaDoorHPut
namespace Go.Proofs.YtbnnjkjmadnjkaaDoor
open Go.RowKit
set_option linter.unusedVariables false

/-- The bytes ahead of a payload of n bytes. -/
def headB (sp k : Nat) (dst src tok : List UInt8) (ph : Bool) (pn n : Nat) : List UInt8 :=
  UInt8.ofNat (firstB sp k ph) :: ((if sp = 2 then dst else longB sp dst src tok (k + n)) ++ be pn k)

set_option maxRecDepth 10000 in
set_option maxHeartbeats 400000 in
theorem bits_any (sp : Nat) (w : World) (b : Bool) (hb : ((sp : Int) == 2) = b) : Calls Tryd.prog 43 #[.int .u8 (sp : Int)] w fun e w' => e = .returned (.int .u8 (if b then 31 else 15)) ∧ w' = w := by
  cases b
  all_goals
    go_enter Tryd.func43, Tryd.ntmps43
    go_wp2
    go_ret
    exact ⟨rfl, rfl⟩

theorem own_one {w : World} {B : Nat} (x : UInt8) (hB : B ≤ w.heap.size) : (w.alloc (.cells #[cell8 x] 5)).ownsRow B 5 1 (.slice (some ⟨w.heap.size, 0, none⟩) 1 1) [x].length ([x].map cell8) :=
  ⟨rfl, .inr ⟨w.heap.size, 1, #[cell8 x], rfl, hB, heap_alloc_new w _, Nat.le_refl _, by unfold maxLen; omega, rfl, rfl⟩⟩

/-- What Put answers. -/
def HPutGave (w : World) (sp : Nat) (dst src tok : List UInt8) (ph : Bool) (pn : Nat) (pnb n : Int) (e : Ending) (w' : World) : Prop :=
  ((mayB sp dst.length src.length tok.length ph (pn : Int) pnb = true ∧ 0 ≤ n ∧ n ≤ 65536) → Gave w (headB sp pnb.toNat dst src tok ph pn n.toNat) (fun v => .tuple #[v, .int .i64 0]) e w') ∧
  (¬ (mayB sp dst.length src.length tok.length ph (pn : Int) pnb = true ∧ 0 ≤ n ∧ n ≤ 65536) → e = .returned (.tuple #[.slice none 0 0, .int .i64 2]) ∧ Below w.heap.size w w')

set_option maxRecDepth 10000 in
set_option maxHeartbeats 1600000 in
theorem hput_bad (sp : Nat) (dst src tok : List UInt8) (ph : Bool) (pn : Nat) (pnb n : Int) (A1 : Option Addr) (c1 : Nat) (A2 : Option Addr) (c2 : Nat) (A3 : Option Addr) (c3 : Nat) (w : World)
    (hbad : ¬ (mayB sp dst.length src.length tok.length ph (pn : Int) pnb = true ∧ 0 ≤ n ∧ n ≤ 65536)) :
    Calls Tryd.prog 15 #[.agg (headC sp A1 dst.length c1 A2 src.length c2 A3 tok.length c3 ph (pn : Int) pnb), .int .i64 n] w fun e w' => e = .returned (.tuple #[.slice none 0 0, .int .i64 2]) ∧ Below w.heap.size w w' := by
  have hb1 : Below w.heap.size w (w.alloc (.cells (headC sp A1 dst.length c1 A2 src.length c2 A3 tok.length c3 ph (pn : Int) pnb) 30)) := (Below.refl _ _).alloc (Nat.le_refl _) _
  have hz1 : w.heap.size ≤ (w.alloc (.cells (headC sp A1 dst.length c1 A2 src.length c2 A3 tok.length c3 ph (pn : Int) pnb) 30)).heap.size := by simp
  have HM := Lib.hid (hmay_any sp dst.length src.length tok.length ph A1 c1 A2 c2 A3 c3 (pn : Int) pnb)
  have HB1 := Lib.hid hb1
  have hcase : mayB sp dst.length src.length tok.length ph (pn : Int) pnb = false ∨ (mayB sp dst.length src.length tok.length ph (pn : Int) pnb = true ∧ n < 0) ∨ (mayB sp dst.length src.length tok.length ph (pn : Int) pnb = true ∧ 65536 < n) := by
    cases hm : mayB sp dst.length src.length tok.length ph (pn : Int) pnb
    · exact .inl rfl
    · rw [hm] at hbad
      by_cases h0 : n < 0
      · exact .inr (.inl ⟨rfl, h0⟩)
      · refine .inr (.inr ⟨rfl, ?_⟩)
        by_cases h1 : n ≤ 65536
        · exact absurd ⟨rfl, by omega, h1⟩ hbad
        · omega
  clear hbad hb1
  generalize mayB sp dst.length src.length tok.length ph (pn : Int) pnb = mb at *
  rcases hcase with rfl | ⟨rfl, h0⟩ | ⟨rfl, h0⟩
  all_goals
    unfold headC
    go_enter Tryd.func15, Tryd.ntmps15
    go_wp2_with fail
    refine (HM.out _).mono ?_
    rintro e w1 ⟨rfl, hb2⟩
    have HB2 := Lib.hid (HB1.out.trans (hb2.mono hz1))
    clear hb2
    go_wp2
    go_ret2
    exact ⟨rfl, HB2.out⟩

set_option maxRecDepth 10000 in
set_option maxHeartbeats 1600000 in
theorem hput_ok (sp k n pn : Nat) (dst src tok : List UInt8) (ph : Bool) (A1 : Option Addr) (c1 : Nat) (A2 : Option Addr) (c2 : Nat) (A3 : Option Addr) (c3 : Nat) (w : World)
    (hmay : mayB sp dst.length src.length tok.length ph (pn : Int) (k : Int) = true) (hn : n ≤ 65536) (h1 : Sl w w.heap.size A1 dst) (h2 : Sl w w.heap.size A2 src) (h3 : Sl w w.heap.size A3 tok) (ht : tok.length ≤ 3000) (hT : Tab w)
    (hsp : sp = 0 ∨ sp = 1 ∨ sp = 2) (hk : k = 1 ∨ k = 2 ∨ k = 3 ∨ k = 4) (hd : dst.length ≤ 20) (hs : src.length ≤ 20) :
    Calls Tryd.prog 15 #[.agg (headC sp A1 dst.length c1 A2 src.length c2 A3 tok.length c3 ph (pn : Int) (k : Int)), .int .i64 (n : Int)] w (Gave w (headB sp k dst src tok ph pn n) fun v => .tuple #[v, .int .i64 0]) := by
  obtain ⟨i0, hi0, hz0, hz1, hz2⟩ := info_parts info8V
  have hz : (w.alloc (.cells (headC sp A1 dst.length c1 A2 src.length c2 A3 tok.length c3 ph (pn : Int) (k : Int)) 30)).heap.size = w.heap.size + 1 := by simp
  have hb0 : Below w.heap.size w (w.alloc (.cells (headC sp A1 dst.length c1 A2 src.length c2 A3 tok.length c3 ph (pn : Int) (k : Int)) 30)) := (Below.refl _ _).alloc (Nat.le_refl _) _
  have hW0 : Wh (w.alloc (.cells (headC sp A1 dst.length c1 A2 src.length c2 A3 tok.length c3 ph (pn : Int) (k : Int)) 30)) w.heap.size 30 (headC sp A1 dst.length c1 A2 src.length c2 A3 tok.length c3 ph (pn : Int) (k : Int)) := Wh.new _ _ _
  have H1 : Hid (Sl (w.alloc (.cells (headC sp A1 dst.length c1 A2 src.length c2 A3 tok.length c3 ph (pn : Int) (k : Int)) 30)) (w.heap.size + 1) A1 dst) := h1.keep (Nat.le_succ _) fun p hp => hb0.cell hp
  have H2 : Hid (Sl (w.alloc (.cells (headC sp A1 dst.length c1 A2 src.length c2 A3 tok.length c3 ph (pn : Int) (k : Int)) 30)) (w.heap.size + 1) A2 src) := h2.keep (Nat.le_succ _) fun p hp => hb0.cell hp
  have H3 : Hid (Sl (w.alloc (.cells (headC sp A1 dst.length c1 A2 src.length c2 A3 tok.length c3 ph (pn : Int) (k : Int)) 30)) (w.heap.size + 1) A3 tok) := h3.keep (Nat.le_succ _) fun p hp => hb0.cell hp
  have hTB : 2 < w.heap.size := hT.lt
  have HT := Lib.hid (hT.below hb0 hT.lt)
  have HM := Lib.hid (hmay_any sp dst.length src.length tok.length ph A1 c1 A2 c2 A3 c3 (pn : Int) (k : Int) (w.alloc (.cells (headC sp A1 dst.length c1 A2 src.length c2 A3 tok.length c3 ph (pn : Int) (k : Int)) 30)))
  rw [hmay] at HM
  have HF := Lib.hid (fun w => firstByte_any sp k ph A1 dst.length c1 A2 src.length c2 A3 tok.length c3 (pn : Int) w hsp hk)
  have HB0 := Lib.hid hb0
  have HW0 := Lib.hid hW0
  have hx : firstB sp k ph ≤ 255 := by
    unfold firstB
    rcases hsp with rfl | rfl | rfl <;> rcases hk with rfl | rfl | rfl | rfl <;> cases ph <;> decide
  have HH : Hid (headB sp k dst src tok ph pn n = UInt8.ofNat (firstB sp k ph) :: ((if sp = 2 then dst else longB sp dst src tok (k + n)) ++ be pn k)) := rfl
  have HLL : Hid ((longB sp dst src tok (k + n)).length ≤ 4000) := by
    show _ ≤ _
    unfold longB
    have e1 := szN_le tok.length
    have e2 := szN_le (k + n)
    split <;> simp [enc_length] <;> omega
  generalize headB sp k dst src tok ph pn n = HD at *
  generalize firstB sp k ph = x at *
  have hk4 : k ≤ 4 := by omega
  clear hmay h1 h2 h3 hT hb0 hW0 hk
  unfold headC
  go_enter Tryd.func15, Tryd.ntmps15
  go_wp2_with fail
  change Calls _ _ _ (w.alloc (.cells (headC sp A1 dst.length c1 A2 src.length c2 A3 tok.length c3 ph (pn : Int) (k : Int)) 30)) _
  generalize (w.alloc (.cells (headC sp A1 dst.length c1 A2 src.length c2 A3 tok.length c3 ph (pn : Int) (k : Int)) 30)) = w0 at *
  refine HM.out.mono ?_
  rintro e w2 ⟨rfl, hb2⟩
  have HB2 := Lib.hid (hb2.mono (show w.heap.size + 1 ≤ w0.heap.size by omega))
  have hW2 := HW0.out.below hb2 (by omega)
  have e0 : w2.cell? ⟨w.heap.size, 0, none⟩ = some (.int .u8 (sp : Int)) := hW2.cell 0
  have e1 : w2.cell? ⟨w.heap.size, 1, none⟩ = some (.slice A1 dst.length c1) := hW2.cell 1
  have e2 : w2.cell? ⟨w.heap.size, 2, none⟩ = some (.slice A2 src.length c2) := hW2.cell 2
  have e3 : w2.cell? ⟨w.heap.size, 3, none⟩ = some (.slice A3 tok.length c3) := hW2.cell 3
  have e4 : w2.cell? ⟨w.heap.size, 4, none⟩ = some (.bool ph) := hW2.cell 4
  have e5 : w2.cell? ⟨w.heap.size, 5, none⟩ = some (.int .u64 (pn : Int)) := hW2.cell 5
  have e6 : w2.cell? ⟨w.heap.size, 6, none⟩ = some (.int .i64 (k : Int)) := hW2.cell 6
  have HW2 := Lib.hid hW2
  have hs2 := hb2.size
  clear hb2 hW2 HM HW0
  go_wp2_with fail
  refine (HF.out w2).mono ?_
  rintro e w3 ⟨rfl, hb3⟩
  have hs3 := hb3.size
  have hW3 := HW2.out.below hb3 HW2.out.lt
  have hP4 : PB w0 (w3.alloc (.cells #[.int .u8 (x : Int)] 5)) (w.heap.size + 1) w.heap.size (headC sp A1 dst.length c1 A2 src.length c2 A3 tok.length c3 ph (pn : Int) (k : Int)) (.slice (some ⟨w3.heap.size, 0, none⟩) 1 1) [UInt8.ofNat x] := by
    have ho := own_one (w := w3) (B := w.heap.size + 1) (UInt8.ofNat x) (by omega)
    rw [← byte_len x hx] at ho
    exact ⟨ho, (HB2.out.trans (hb3.mono (by omega))).alloc (by omega) _, hW3.alloc _, own_type ho (hW3.alloc _) (by decide), by omega⟩
  have HP4 := Lib.hid hP4
  clear hb3 hW3 hP4 e0 e1 e2 e3 e4 e5 e6 HB2 HW2 HF
  go_upto_region 4 with fail
  generalize w3.alloc (.cells #[.int .u8 (x : Int)] 5) = w4 at *
  have e0 : w4.cell? ⟨w.heap.size, 0, none⟩ = some (.int .u8 (sp : Int)) := HP4.out.box.cell 0
  have e1 : w4.cell? ⟨w.heap.size, 1, none⟩ = some (.slice A1 dst.length c1) := HP4.out.box.cell 1
  have e2 : w4.cell? ⟨w.heap.size, 2, none⟩ = some (.slice A2 src.length c2) := HP4.out.box.cell 2
  have e3 : w4.cell? ⟨w.heap.size, 3, none⟩ = some (.slice A3 tok.length c3) := HP4.out.box.cell 3
  have e4 : w4.cell? ⟨w.heap.size, 4, none⟩ = some (.bool ph) := HP4.out.box.cell 4
  have e5 : w4.cell? ⟨w.heap.size, 5, none⟩ = some (.int .u64 (pn : Int)) := HP4.out.box.cell 5
  have e6 : w4.cell? ⟨w.heap.size, 6, none⟩ = some (.int .i64 (k : Int)) := HP4.out.box.cell 6
  rcases hsp with rfl | rfl | rfl
  rotate_left 2
  · go_upto_region 7 with (at_builtin; refine wpList_append_sv _ rfl _ _ _ rfl (w.heap.size + 1) 5 i0 _ 1 Tryd.underlying28 hi0 hz0 hz1 hz2 rfl _ _ _ rfl HP4.out.own (w.heap.size + 1) _ dst.length _ (dst.map cell8) rfl (HP4.out.sl H1.out) (by simp) (cell8_one dst) (by unfold maxLen; simp; omega) (by simp; omega) HP4.out.hBw ?_; intro v5 w5 hown5 hg5 _)
    have HP5 := Lib.hid (HP4.out.app (d := dst) hown5 rfl hg5)
    clear hown5 hg5 HP4 e0 e1 e2 e3 e4 e5 e6
    have HPN := Lib.hid (putNumber_any (w.heap.size + 1) k pn v5 ([UInt8.ofNat x] ++ dst) 2 ph A1 dst.length c1 A2 src.length c2 A3 tok.length c3 w5 HP5.out.own HP5.out.hBw hk4 (by have := HLL.out; simp; omega))
    have hbel5 := HP5.out.bel
    have hHD : HD = [UInt8.ofNat x] ++ dst ++ be pn k := by rw [HH.out]; simp
    have HHD := Lib.hid hHD
    have HB5 := Lib.hid hbel5
    clear hHD hbel5 HH
    have e0 : w5.cell? ⟨w.heap.size, 0, none⟩ = some (.int .u8 2) := HP5.out.box.cell 0
    have e1 : w5.cell? ⟨w.heap.size, 1, none⟩ = some (.slice A1 dst.length c1) := HP5.out.box.cell 1
    have e2 : w5.cell? ⟨w.heap.size, 2, none⟩ = some (.slice A2 src.length c2) := HP5.out.box.cell 2
    have e3 : w5.cell? ⟨w.heap.size, 3, none⟩ = some (.slice A3 tok.length c3) := HP5.out.box.cell 3
    have e4 : w5.cell? ⟨w.heap.size, 4, none⟩ = some (.bool ph) := HP5.out.box.cell 4
    have e5 : w5.cell? ⟨w.heap.size, 5, none⟩ = some (.int .u64 (pn : Int)) := HP5.out.box.cell 5
    have e6 : w5.cell? ⟨w.heap.size, 6, none⟩ = some (.int .i64 (k : Int)) := HP5.out.box.cell 6
    clear HP5
    go_wp2_with fail
    refine HPN.out.mono ?_
    rintro e w6 ⟨v6, rfl, hown6, hb6⟩
    rw [← HHD.out] at hown6
    go_wp2
    obtain ⟨A6, c6, rfl, q1, q2⟩ := own_form hown6
    go_ret2
    exact ⟨A6, c6, rfl, q1, q2, hown_base hown6 (Nat.le_succ _), HB0.out.trans ((HB5.out.trans hb6).mono (Nat.le_succ _))⟩
  rotate_left 1
  · go_wp2_with fail
    have HPL := Lib.hid (putLong_any (w.heap.size + 1) 1 k pn n (.slice (some ⟨w3.heap.size, 0, none⟩) 1 1) [UInt8.ofNat x] dst src tok ph A1 c1 A2 c2 A3 c3 w4 HP4.out.own HP4.out.hBw (HP4.out.sl H1.out) (HP4.out.sl H2.out) (HP4.out.sl H3.out) hd hs ht (by simp) hk4 hn (by simp) (HT.out.below HP4.out.bel (by omega)) (by omega))
    refine HPL.out.mono ?_
    rintro e w5 ⟨v5, rfl, hown5, hb5⟩
    have hW5 := HP4.out.box.below hb5 (Nat.lt_succ_self _)
    have HP5 : Hid (PB w0 w5 (w.heap.size + 1) w.heap.size (headC 1 A1 dst.length c1 A2 src.length c2 A3 tok.length c3 ph (pn : Int) (k : Int)) v5 ([UInt8.ofNat x] ++ longB 1 dst src tok (k + n))) :=
      ⟨hown5, HP4.out.bel.trans hb5, hW5, own_type hown5 hW5 (by decide), HP4.out.hB⟩
    clear hown5 hb5 hW5 HP4 e0 e1 e2 e3 e4 e5 e6 HPL
    have HPN := Lib.hid (putNumber_any (w.heap.size + 1) k pn v5 ([UInt8.ofNat x] ++ longB 1 dst src tok (k + n)) 1 ph A1 dst.length c1 A2 src.length c2 A3 tok.length c3 w5 HP5.out.own HP5.out.hBw hk4 (by have := HLL.out; simp; omega))
    have hbel5 := HP5.out.bel
    have hHD : HD = [UInt8.ofNat x] ++ longB 1 dst src tok (k + n) ++ be pn k := by rw [HH.out]; simp
    have HHD := Lib.hid hHD
    have HB5 := Lib.hid hbel5
    clear hHD hbel5 HH
    have e0 : w5.cell? ⟨w.heap.size, 0, none⟩ = some (.int .u8 1) := HP5.out.box.cell 0
    have e1 : w5.cell? ⟨w.heap.size, 1, none⟩ = some (.slice A1 dst.length c1) := HP5.out.box.cell 1
    have e2 : w5.cell? ⟨w.heap.size, 2, none⟩ = some (.slice A2 src.length c2) := HP5.out.box.cell 2
    have e3 : w5.cell? ⟨w.heap.size, 3, none⟩ = some (.slice A3 tok.length c3) := HP5.out.box.cell 3
    have e4 : w5.cell? ⟨w.heap.size, 4, none⟩ = some (.bool ph) := HP5.out.box.cell 4
    have e5 : w5.cell? ⟨w.heap.size, 5, none⟩ = some (.int .u64 (pn : Int)) := HP5.out.box.cell 5
    have e6 : w5.cell? ⟨w.heap.size, 6, none⟩ = some (.int .i64 (k : Int)) := HP5.out.box.cell 6
    clear HP5
    go_wp2_with fail
    refine HPN.out.mono ?_
    rintro e w6 ⟨v6, rfl, hown6, hb6⟩
    rw [← HHD.out] at hown6
    go_wp2
    obtain ⟨A6, c6, rfl, q1, q2⟩ := own_form hown6
    go_ret2
    exact ⟨A6, c6, rfl, q1, q2, hown_base hown6 (Nat.le_succ _), HB0.out.trans ((HB5.out.trans hb6).mono (Nat.le_succ _))⟩
  · go_wp2_with fail
    have HPL := Lib.hid (putLong_any (w.heap.size + 1) 0 k pn n (.slice (some ⟨w3.heap.size, 0, none⟩) 1 1) [UInt8.ofNat x] dst src tok ph A1 c1 A2 c2 A3 c3 w4 HP4.out.own HP4.out.hBw (HP4.out.sl H1.out) (HP4.out.sl H2.out) (HP4.out.sl H3.out) hd hs ht (by simp) hk4 hn (by simp) (HT.out.below HP4.out.bel (by omega)) (by omega))
    refine HPL.out.mono ?_
    rintro e w5 ⟨v5, rfl, hown5, hb5⟩
    have hW5 := HP4.out.box.below hb5 (Nat.lt_succ_self _)
    have HP5 : Hid (PB w0 w5 (w.heap.size + 1) w.heap.size (headC 0 A1 dst.length c1 A2 src.length c2 A3 tok.length c3 ph (pn : Int) (k : Int)) v5 ([UInt8.ofNat x] ++ longB 0 dst src tok (k + n))) :=
      ⟨hown5, HP4.out.bel.trans hb5, hW5, own_type hown5 hW5 (by decide), HP4.out.hB⟩
    clear hown5 hb5 hW5 HP4 e0 e1 e2 e3 e4 e5 e6 HPL
    have HPN := Lib.hid (putNumber_any (w.heap.size + 1) k pn v5 ([UInt8.ofNat x] ++ longB 0 dst src tok (k + n)) 0 ph A1 dst.length c1 A2 src.length c2 A3 tok.length c3 w5 HP5.out.own HP5.out.hBw hk4 (by have := HLL.out; simp; omega))
    have hbel5 := HP5.out.bel
    have hHD : HD = [UInt8.ofNat x] ++ longB 0 dst src tok (k + n) ++ be pn k := by rw [HH.out]; simp
    have HHD := Lib.hid hHD
    have HB5 := Lib.hid hbel5
    clear hHD hbel5 HH
    have e0 : w5.cell? ⟨w.heap.size, 0, none⟩ = some (.int .u8 0) := HP5.out.box.cell 0
    have e1 : w5.cell? ⟨w.heap.size, 1, none⟩ = some (.slice A1 dst.length c1) := HP5.out.box.cell 1
    have e2 : w5.cell? ⟨w.heap.size, 2, none⟩ = some (.slice A2 src.length c2) := HP5.out.box.cell 2
    have e3 : w5.cell? ⟨w.heap.size, 3, none⟩ = some (.slice A3 tok.length c3) := HP5.out.box.cell 3
    have e4 : w5.cell? ⟨w.heap.size, 4, none⟩ = some (.bool ph) := HP5.out.box.cell 4
    have e5 : w5.cell? ⟨w.heap.size, 5, none⟩ = some (.int .u64 (pn : Int)) := HP5.out.box.cell 5
    have e6 : w5.cell? ⟨w.heap.size, 6, none⟩ = some (.int .i64 (k : Int)) := HP5.out.box.cell 6
    clear HP5
    go_wp2_with fail
    refine HPN.out.mono ?_
    rintro e w6 ⟨v6, rfl, hown6, hb6⟩
    rw [← HHD.out] at hown6
    go_wp2
    obtain ⟨A6, c6, rfl, q1, q2⟩ := own_form hown6
    go_ret2
    exact ⟨A6, c6, rfl, q1, q2, hown_base hown6 (Nat.le_succ _), HB0.out.trans ((HB5.out.trans hb6).mono (Nat.le_succ _))⟩
end Go.Proofs.YtbnnjkjmadnjkaaDoor
