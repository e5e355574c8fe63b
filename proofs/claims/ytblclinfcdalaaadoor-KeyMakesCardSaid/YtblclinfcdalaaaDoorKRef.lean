/-
  The document's own MAC (hostlerref07).
-/
import Derived.Test.YtblclinfcdalaaaDoorKExp
namespace Go.Proofs.YtblclinfcdalaaaDoor
open Go.RowKit
set_option linter.unusedVariables false

theorem xor_cell (x y : UInt8) : Value.int .u8 (((x.toNat ^^^ y.toNat : Nat)) : Int) = cell8 (x ^^^ y) := by
  unfold cell8; rw [UInt8.toNat_xor]
theorem mixB_take (b : List UInt8) (o : UInt8) (k : Nat) (h : k < b.length) : (mixB b o).take (k + 1) = (mixB b o).take k ++ [b.getD k 0 ^^^ o] := by
  rw [List.take_succ_eq_append_getElem (by rw [mixB_len]; exact h)]
  simp [mixB, List.getD, h]
theorem take_snoc (l : List UInt8) (k : Nat) (h : k < l.length) : l.take (k + 1) = l.take k ++ [l.getD k 0] := by
  rw [List.take_succ_eq_append_getElem h]
  simp [List.getD, h]

set_option maxRecDepth 100000 in
set_option maxHeartbeats 1600000 in
theorem padded_any (key : List UInt8) (A : Option Addr) (n c : Nat) (o : UInt8) (w : World) (hl : key.length = n) (hlc : n ≤ c) (hcm : c ≤ maxLen) (hs : Sl w w.heap.size A key) (hmax : n ≤ 1000000) :
    Calls Tryd.prog 61 #[.slice A n c, .int .u8 (o.toNat : Int)] w (GaveB w (mixB (blockK kW key) o)) := by
  obtain ⟨i0, hi0, hz0, hz1, hz2⟩ := info_parts info8
  obtain ⟨blk, hblk⟩ : ∃ blk, blk = blockK kW key := ⟨_, rfl⟩
  rw [← hblk]
  have hbl : blk.length = 64 := by rw [hblk]; exact blockK_len _ _
  have hat : ∀ i, i < 64 → blk.getD i 0 = (keyK kW key).getD i 0 := fun i hi => by rw [hblk]; exact blockK_at _ _ i hi
  have HBL := Deep.mk hbl
  have HAT := Deep.mk hat
  have HL := Deep.mk hl
  have HLC := Lib.hid hlc
  have HCM := Lib.hid hcm
  have HO0 := Lib.hid (World.ownsRow_made (base := w.heap.size) (e := 5) (size := 1) w #[] 0 (Nat.le_refl _) (Nat.zero_le _) rfl)
  have hB0 : Below w.heap.size w (w.alloc (.cells #[] 5)) := (Below.refl _ _).alloc (Nat.le_refl _) _
  have HSW := Lib.hid (Sv.below hs hB0)
  have HB0 := Lib.hid hB0
  have HKC : Deep ((key.map cell8).length = n) := ⟨by rw [List.length_map]; exact hl⟩
  clear hblk hbl hat hl hs hB0
  go_enter Tryd.func61, Tryd.ntmps61
  go_upto_region 2 with (at_builtin; refine wpList_append_sv _ rfl (.tmp 11) (.tmp 12) _ rfl w.heap.size 5 i0 _ 1 Tryd.underlying23 hi0 hz0 hz1 hz2 rfl (.slice (some ⟨w.heap.size, 0, none⟩) 0 0) 0 [] rfl HO0.out w.heap.size A n c (key.map cell8) rfl HSW.out HKC.out (cell8_one _) (by unfold maxLen; omega) (by omega) (by simp) ?_; intro v1 w1 hown1 hg1 hno1; have HO1 := Lib.hid hown1; have HG1 := Lib.hid hg1; clear hown1 hg1 hno1)
  have HB1 : Hid (Below w.heap.size w w1) := Lib.hid (HB0.out.grown HG1.out HB0.out.size (fun q hq => (HO0.out.lt q hq).1))
  have ho1 := HO1.out
  rw [Nat.zero_add, List.nil_append] at ho1
  obtain ⟨A1, c1, rfl, h1a, h1b⟩ := own_form ho1
  have hs1 : Sl w1 w1.heap.size A1 key := Sv.of_own ho1
  have HS1 := Lib.hid hs1
  clear HO0 HB0 HSW HKC HO1 HG1 ho1 hs1

  have hww1 : w.heap.size ≤ w1.heap.size := HB1.out.size
  by_cases h64 : 64 < n
  · have t1 : decide (64 < n) = true := decide_eq_true h64
    have t1' : decide ((64 : Int) < (n : Int)) = true := decide_eq_true (by omega)
    go_wp2_with fail
    refine (rsum_any key n c1 w1.heap.size A1 w1 (Nat.le_refl _) HL.out HS1.out (by omega)).mono ?_
    rintro e w2 ⟨rfl, hb2⟩
    obtain ⟨sm, hsm⟩ : ∃ sm, sm = sumK kW key := ⟨_, rfl⟩
    rw [← hsm]
    have HKK : Deep (keyK kW key = sm) := ⟨by rw [hsm, keyK, if_pos (by rw [HL.out]; exact h64)]⟩
    have HSL : Deep (sm.length = 32) := ⟨by rw [hsm]; exact sumK_32 _ _⟩
    have HB2 := Lib.hid (HB1.out.trans (hb2.mono hww1))
    clear hsm hb2 t1 t1' HB1 HS1
    go_upto_region 4 with (refine wpList_store_row rfl 22 (.tmp 6) (.tmp 18) rfl w2.heap.size (bRow sm) rfl rfl _ _ (Wh.new w2 _ _) (info_bRow HSL.out) (by rw [bRow_size, HSL.out]; rfl) (bRow_one _) ?_; rw [World.setRow_alloc_new])
    have hb3 : Below w.heap.size w (w2.alloc (.cells (bRow sm) 22)) := HB2.out.alloc HB2.out.size _
    have hg3 : Wh (w2.alloc (.cells (bRow sm) 22)) w2.heap.size 22 (bRow sm) := Wh.new _ _ _
    obtain ⟨g, hg⟩ : ∃ g, g = w2.heap.size := ⟨_, rfl⟩
    rw [← hg] at hg3
    rw [← hg]
    generalize w2.alloc (.cells (bRow sm) 22) = w3 at *
    have hgw : g < w3.heap.size := hg3.lt
    have hww3 : w.heap.size ≤ w3.heap.size := hb3.size
    have HB3 := Lib.hid hb3
    have HG3 := Lib.hid hg3
    clear hg hb3 hg3 HB2
    go_wp2
    go_loopw [5, 7] (fun v i wr => ∃ k : Nat, k ≤ 32 ∧ i = .int .i64 (k : Int) ∧ Hid (wr.ownsRow w3.heap.size 5 1 v k ((sm.take k).map cell8)) ∧ Hid (Below w3.heap.size w3 wr)) (fun _ i _ => 32 - (intOf i).toNat)
    case atStart => exact ⟨0, by omega, rfl, Lib.hid (by simpa using World.ownsRow_nil _ _ _ 1), Lib.hid (Below.refl _ _)⟩
    case round =>
      obtain ⟨k, hk, rfl, HO, HB⟩ := hrel
      by_cases hlt : k < 32
      · have hx : wr.cell? ⟨g, k, none⟩ = some (.int .u8 ((sm.getD k 0).toNat : Int)) := by
          rw [(HG3.out.below HB.out hgw).cell, bRow, List.getElem?_toArray, List.getElem?_map, List.getElem?_eq_getElem (by rw [HSL.out]; exact hlt)]
          simp [List.getD, HSL.out, hlt, cell8]
        have HST : Deep ((sm.take k).map cell8 ++ [cell8 (sm.getD k 0)] = (sm.take (k + 1)).map cell8) := ⟨by rw [take_snoc sm k (by rw [HSL.out]; exact hlt), List.map_append]; rfl⟩
        obtain ⟨x, hxx⟩ : ∃ x, x = sm.getD k 0 := ⟨_, rfl⟩
        rw [← hxx] at hx HST
        have t2 : decide ((k : Int) < 32) = true := decide_eq_true (by omega)
        have HOA := Lib.hid (HO.out.alloc (.cells #[Value.int .u8 (x.toNat : Int)] 5))
        have hsz : w3.heap.size ≤ wr.heap.size := HB.out.size
        clear hxx
        go_wp2_with (at_builtin; refine wpList_append_sv _ rfl (.tmp 23) (.tmp 27) _ rfl w3.heap.size 5 i0 _ 1 Tryd.underlying23 hi0 hz0 hz1 hz2 rfl _ k _ rfl HOA.out (wr.heap.size + 1) (some ⟨wr.heap.size, 0, none⟩) 1 1 [Value.int .u8 (x.toNat : Int)] rfl (sv_new wr _ _) rfl (fun u hu => by simp at hu; subst hu; rfl) (by unfold maxLen; omega) (by omega) (by simp; omega) ?_; intro v5 w5 hown5 hg5 hno5; have HO5 := Lib.hid hown5; have HG5 := Lib.hid hg5; clear hown5 hg5 hno5)
        have ho5 : w5.ownsRow w3.heap.size 5 1 v5 (k + 1) ((sm.take (k + 1)).map cell8) := by
          rw [← HST.out]
          exact HO5.out
        have HB5 := Lib.hid ((HB.out.alloc hsz (.cells #[Value.int .u8 (x.toNat : Int)] 5)).grown HG5.out (by simp; omega) (fun q hq => (HOA.out.lt q hq).1))
        exact ⟨⟨k + 1, by omega, by go_num, Lib.hid ho5, HB5⟩, by simp [intOf]; omega⟩
      · have hk32 : k = 32 := by omega
        have ho := HO.out
        rw [hk32, List.take_of_length_le (by rw [HSL.out]; omega)] at ho
        obtain ⟨A5, c5, rfl, h5a, h5b⟩ := own_form ho
        have HS5 : Hid (Sl wr wr.heap.size A5 sm) := Lib.hid (Sv.of_own ho)
        have HB5 := Lib.hid (HB3.out.trans (HB.out.mono hww3))
        have t2 : decide ((k : Int) < 32) = false := decide_eq_false (by omega)
        clear HO HB HG3 HB3 ho hk hk32 hlt hgw hww3
        generalize wr = w6 at *
        have hww6 : w.heap.size ≤ w6.heap.size := HB5.out.size
        go_wp2
        go_loopw [8, 9] (fun v i wr => ∃ k : Nat, k ≤ 64 ∧ i = .int .i64 (k : Int) ∧ Hid (wr.ownsRow w6.heap.size 5 1 v k (((mixB blk o).take k).map cell8)) ∧ Hid (Below w6.heap.size w6 wr)) (fun _ i _ => 64 - (intOf i).toNat)
        case atStart => exact ⟨0, by omega, rfl, Lib.hid (by simpa using World.ownsRow_nil _ _ _ 1), Lib.hid (Below.refl _ _)⟩
        case round =>
          obtain ⟨j, hj, rfl, HO, HB⟩ := hrel
          by_cases hlt : j < 64
          · obtain ⟨x, hxx⟩ : ∃ x, x = sm.getD j 0 := ⟨_, rfl⟩
            have HST : Deep (((mixB blk o).take j).map cell8 ++ [Value.int .u8 (((x.toNat ^^^ o.toNat : Nat)) : Int)] = ((mixB blk o).take (j + 1)).map cell8) := ⟨by
              rw [mixB_take blk o j (by rw [HBL.out]; exact hlt), List.map_append, HAT.out j hlt, HKK.out, ← hxx, xor_cell]
              rfl⟩
            have t2 : decide ((j : Int) < 64) = true := decide_eq_true (by omega)
            have hsz : w6.heap.size ≤ wr.heap.size := HB.out.size
            have hxor : bits .xor .u8 (x.toNat : Int) (o.toNat : Int) = (((x.toNat ^^^ o.toNat : Nat)) : Int) := by rw [u8_xorB, UInt8.toNat_xor]
            have HOA := Lib.hid (HO.out.alloc (.cells #[Value.int .u8 (((x.toNat ^^^ o.toNat : Nat)) : Int)] 5))
            by_cases hin : j < 32
            · obtain ⟨b, off, rfl, hb, hcell⟩ := (HS5.out.below HB.out) (by intro e; rw [List.map_eq_nil_iff] at e; have h := HSL.out; rw [e, List.length_nil] at h; omega)
              have hx : wr.cell? ⟨b, off + j, none⟩ = some (.int .u8 (x.toNat : Int)) := by
                refine hcell j _ ?_
                rw [List.getElem?_map, List.getElem?_eq_getElem (by rw [HSL.out]; exact hin), hxx]
                simp [List.getD, HSL.out, hin, cell8]
              have t3 : decide (j < 32) = true := decide_eq_true hin
              have t3' : decide ((j : Int) < (32 : Int)) = true := decide_eq_true (by omega)
              clear hcell hxx
              go_wp2_with (at_builtin; refine wpList_append_sv _ rfl (.tmp 41) (.tmp 45) _ rfl w6.heap.size 5 i0 _ 1 Tryd.underlying23 hi0 hz0 hz1 hz2 rfl _ j _ rfl HOA.out (wr.heap.size + 1) (some ⟨wr.heap.size, 0, none⟩) 1 1 [Value.int .u8 (((x.toNat ^^^ o.toNat : Nat)) : Int)] rfl (sv_new wr _ _) rfl (fun u hu => by simp at hu; subst hu; rfl) (by unfold maxLen; omega) (by omega) (by simp; omega) ?_; intro v7 w7 hown7 hg7 hno7; have HO7 := Lib.hid hown7; have HG7 := Lib.hid hg7; clear hown7 hg7 hno7)
              have ho7 : w7.ownsRow w6.heap.size 5 1 v7 (j + 1) (((mixB blk o).take (j + 1)).map cell8) := by
                rw [← HST.out]
                exact HO7.out
              have HB7 := Lib.hid ((HB.out.alloc hsz (.cells #[Value.int .u8 (((x.toNat ^^^ o.toNat : Nat)) : Int)] 5)).grown HG7.out (by simp; omega) (fun q hq => (HOA.out.lt q hq).1))
              exact ⟨⟨j + 1, by omega, by go_num, Lib.hid ho7, HB7⟩, by simp [intOf]; omega⟩
            · have hx0 : x = 0 := by rw [hxx]; simp [List.getD, List.getElem?_eq_none (by rw [HSL.out]; omega : sm.length ≤ j)]
              subst hx0
              have t3 : decide (j < 32) = false := decide_eq_false hin
              have t3' : decide ((j : Int) < (32 : Int)) = false := decide_eq_false (by omega)
              have HST0 : Deep (((mixB blk o).take j).map cell8 ++ [Value.int .u8 (o.toNat : Int)] = ((mixB blk o).take (j + 1)).map cell8) := ⟨by
                rw [← HST.out, show UInt8.toNat 0 = 0 from rfl, Nat.zero_xor]⟩
              have hxor0 : bits .xor .u8 0 (o.toNat : Int) = (o.toNat : Int) := by
                have h := hxor
                rw [show UInt8.toNat 0 = 0 from rfl, Nat.zero_xor] at h
                exact h
              have HOA0 := Lib.hid (HO.out.alloc (.cells #[Value.int .u8 (o.toNat : Int)] 5))
              clear hxx HST HOA hxor
              go_wp2_with (at_builtin; refine wpList_append_sv _ rfl (.tmp 41) (.tmp 45) _ rfl w6.heap.size 5 i0 _ 1 Tryd.underlying23 hi0 hz0 hz1 hz2 rfl _ j _ rfl HOA0.out (wr.heap.size + 1) (some ⟨wr.heap.size, 0, none⟩) 1 1 [Value.int .u8 (o.toNat : Int)] rfl (sv_new wr _ _) rfl (fun u hu => by simp at hu; subst hu; rfl) (by unfold maxLen; omega) (by omega) (by simp; omega) ?_; intro v7 w7 hown7 hg7 hno7; have HO7 := Lib.hid hown7; have HG7 := Lib.hid hg7; clear hown7 hg7 hno7)
              have ho7 : w7.ownsRow w6.heap.size 5 1 v7 (j + 1) (((mixB blk o).take (j + 1)).map cell8) := by
                rw [← HST0.out]
                exact HO7.out
              have HB7 := Lib.hid ((HB.out.alloc hsz (.cells #[Value.int .u8 (o.toNat : Int)] 5)).grown HG7.out (by simp; omega) (fun q hq => (HOA0.out.lt q hq).1))
              exact ⟨⟨j + 1, by omega, by go_num, Lib.hid ho7, HB7⟩, by simp [intOf]; omega⟩
          · have hj64 : j = 64 := by omega
            have hml : (mixB blk o).length = 64 := by rw [mixB_len]; exact HBL.out
            have ho := HO.out
            rw [hj64, List.take_of_length_le (by rw [hml]; omega)] at ho
            obtain ⟨A8, c8, rfl, h8a, h8b⟩ := own_form ho
            have HOF := Lib.hid (own_le ho hww6)
            have HBF := Lib.hid (HB5.out.trans (HB.out.mono hww6))
            have HML := Deep.mk hml
            have t2 : decide ((j : Int) < 64) = false := decide_eq_false (by omega)
            clear HO HB ho hj hlt hml hj64
            go_wp2
            go_ret
            refine ⟨A8, c8, ?_, ?_, h8b, ?_, HBF.out⟩
            · rw [HML.out]; rfl
            · rw [HML.out]; exact h8a
            · rw [HML.out]; exact HOF.out
  · have t1 : decide (64 < n) = false := decide_eq_false h64
    have t1' : decide ((64 : Int) < (n : Int)) = false := decide_eq_false (by omega)
    obtain ⟨sm, hsm⟩ : ∃ sm, sm = key := ⟨_, rfl⟩
    have HKK : Deep (keyK kW key = sm) := ⟨by rw [hsm, keyK, if_neg (by rw [HL.out]; exact h64)]⟩
    have HSL : Deep (sm.length = n) := ⟨by rw [hsm]; exact HL.out⟩
    have HS5 : Hid (Sl w1 w1.heap.size A1 sm) := Lib.hid (by rw [hsm]; exact HS1.out)
    have HB5 := HB1
    clear hsm HB1 HS1
    generalize w1 = w6 at *
    have hww6 : w.heap.size ≤ w6.heap.size := HB5.out.size
    go_wp2
    go_loopw [8, 9] (fun v i wr => ∃ k : Nat, k ≤ 64 ∧ i = .int .i64 (k : Int) ∧ Hid (wr.ownsRow w6.heap.size 5 1 v k (((mixB blk o).take k).map cell8)) ∧ Hid (Below w6.heap.size w6 wr)) (fun _ i _ => 64 - (intOf i).toNat)
    case atStart => exact ⟨0, by omega, rfl, Lib.hid (by simpa using World.ownsRow_nil _ _ _ 1), Lib.hid (Below.refl _ _)⟩
    case round =>
      obtain ⟨j, hj, rfl, HO, HB⟩ := hrel
      by_cases hlt : j < 64
      · obtain ⟨x, hxx⟩ : ∃ x, x = sm.getD j 0 := ⟨_, rfl⟩
        have HST : Deep (((mixB blk o).take j).map cell8 ++ [Value.int .u8 (((x.toNat ^^^ o.toNat : Nat)) : Int)] = ((mixB blk o).take (j + 1)).map cell8) := ⟨by
          rw [mixB_take blk o j (by rw [HBL.out]; exact hlt), List.map_append, HAT.out j hlt, HKK.out, ← hxx, xor_cell]
          rfl⟩
        have t2 : decide ((j : Int) < 64) = true := decide_eq_true (by omega)
        have hsz : w6.heap.size ≤ wr.heap.size := HB.out.size
        have hxor : bits .xor .u8 (x.toNat : Int) (o.toNat : Int) = (((x.toNat ^^^ o.toNat : Nat)) : Int) := by rw [u8_xorB, UInt8.toNat_xor]
        have HOA := Lib.hid (HO.out.alloc (.cells #[Value.int .u8 (((x.toNat ^^^ o.toNat : Nat)) : Int)] 5))
        by_cases hin : j < n
        · obtain ⟨b, off, rfl, hb, hcell⟩ := (HS5.out.below HB.out) (by intro e; rw [List.map_eq_nil_iff] at e; have h := HSL.out; rw [e, List.length_nil] at h; omega)
          have hx : wr.cell? ⟨b, off + j, none⟩ = some (.int .u8 (x.toNat : Int)) := by
            refine hcell j _ ?_
            rw [List.getElem?_map, List.getElem?_eq_getElem (by rw [HSL.out]; exact hin), hxx]
            simp [List.getD, HSL.out, hin, cell8]
          have t3 : decide (j < n) = true := decide_eq_true hin
          have t3' : decide ((j : Int) < (n : Int)) = true := decide_eq_true (by omega)
          clear hcell hxx
          go_wp2_with (at_builtin; refine wpList_append_sv _ rfl (.tmp 41) (.tmp 45) _ rfl w6.heap.size 5 i0 _ 1 Tryd.underlying23 hi0 hz0 hz1 hz2 rfl _ j _ rfl HOA.out (wr.heap.size + 1) (some ⟨wr.heap.size, 0, none⟩) 1 1 [Value.int .u8 (((x.toNat ^^^ o.toNat : Nat)) : Int)] rfl (sv_new wr _ _) rfl (fun u hu => by simp at hu; subst hu; rfl) (by unfold maxLen; omega) (by omega) (by simp; omega) ?_; intro v7 w7 hown7 hg7 hno7; have HO7 := Lib.hid hown7; have HG7 := Lib.hid hg7; clear hown7 hg7 hno7)
          have ho7 : w7.ownsRow w6.heap.size 5 1 v7 (j + 1) (((mixB blk o).take (j + 1)).map cell8) := by
            rw [← HST.out]
            exact HO7.out
          have HB7 := Lib.hid ((HB.out.alloc hsz (.cells #[Value.int .u8 (((x.toNat ^^^ o.toNat : Nat)) : Int)] 5)).grown HG7.out (by simp; omega) (fun q hq => (HOA.out.lt q hq).1))
          exact ⟨⟨j + 1, by omega, by go_num, Lib.hid ho7, HB7⟩, by simp [intOf]; omega⟩
        · have hx0 : x = 0 := by rw [hxx]; simp [List.getD, List.getElem?_eq_none (by rw [HSL.out]; omega : sm.length ≤ j)]
          subst hx0
          have t3 : decide (j < n) = false := decide_eq_false hin
          have t3' : decide ((j : Int) < (n : Int)) = false := decide_eq_false (by omega)
          have HST0 : Deep (((mixB blk o).take j).map cell8 ++ [Value.int .u8 (o.toNat : Int)] = ((mixB blk o).take (j + 1)).map cell8) := ⟨by
            rw [← HST.out, show UInt8.toNat 0 = 0 from rfl, Nat.zero_xor]⟩
          have hxor0 : bits .xor .u8 0 (o.toNat : Int) = (o.toNat : Int) := by
            have h := hxor
            rw [show UInt8.toNat 0 = 0 from rfl, Nat.zero_xor] at h
            exact h
          have HOA0 := Lib.hid (HO.out.alloc (.cells #[Value.int .u8 (o.toNat : Int)] 5))
          clear hxx HST HOA hxor
          go_wp2_with (at_builtin; refine wpList_append_sv _ rfl (.tmp 41) (.tmp 45) _ rfl w6.heap.size 5 i0 _ 1 Tryd.underlying23 hi0 hz0 hz1 hz2 rfl _ j _ rfl HOA0.out (wr.heap.size + 1) (some ⟨wr.heap.size, 0, none⟩) 1 1 [Value.int .u8 (o.toNat : Int)] rfl (sv_new wr _ _) rfl (fun u hu => by simp at hu; subst hu; rfl) (by unfold maxLen; omega) (by omega) (by simp; omega) ?_; intro v7 w7 hown7 hg7 hno7; have HO7 := Lib.hid hown7; have HG7 := Lib.hid hg7; clear hown7 hg7 hno7)
          have ho7 : w7.ownsRow w6.heap.size 5 1 v7 (j + 1) (((mixB blk o).take (j + 1)).map cell8) := by
            rw [← HST0.out]
            exact HO7.out
          have HB7 := Lib.hid ((HB.out.alloc hsz (.cells #[Value.int .u8 (o.toNat : Int)] 5)).grown HG7.out (by simp; omega) (fun q hq => (HOA0.out.lt q hq).1))
          exact ⟨⟨j + 1, by omega, by go_num, Lib.hid ho7, HB7⟩, by simp [intOf]; omega⟩
      · have hj64 : j = 64 := by omega
        have hml : (mixB blk o).length = 64 := by rw [mixB_len]; exact HBL.out
        have ho := HO.out
        rw [hj64, List.take_of_length_le (by rw [hml]; omega)] at ho
        obtain ⟨A8, c8, rfl, h8a, h8b⟩ := own_form ho
        have HOF := Lib.hid (own_le ho hww6)
        have HBF := Lib.hid (HB5.out.trans (HB.out.mono hww6))
        have HML := Deep.mk hml
        have t2 : decide ((j : Int) < 64) = false := decide_eq_false (by omega)
        clear HO HB ho hj hlt hml hj64
        go_wp2
        go_ret
        refine ⟨A8, c8, ?_, ?_, h8b, ?_, HBF.out⟩
        · rw [HML.out]; rfl
        · rw [HML.out]; exact h8a
        · rw [HML.out]; exact HOF.out
end Go.Proofs.YtblclinfcdalaaaDoor
