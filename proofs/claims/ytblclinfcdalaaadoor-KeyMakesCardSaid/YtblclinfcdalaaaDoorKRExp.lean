/-
  The document's own Expand (hostlerref07).
-/
import Derived.Test.YtblclinfcdalaaaDoorKRMac
import Derived.Test.YtblclinfcdalaaaDoorKLab
namespace Go.Proofs.YtblclinfcdalaaaDoor
open Go.RowKit
set_option linter.unusedVariables false

/-- Bytes that a call gave, in memory. -/
def GaveS (w : World) (l : List UInt8) (e : Ending) (w' : World) : Prop :=
  ∃ A' c', e = .returned (.slice A' l.length c') ∧ l.length ≤ c' ∧ c' ≤ maxLen ∧ Sl w' w'.heap.size A' l ∧ Below w.heap.size w w'
/-- The same, of bytes that are new. -/
def GaveY (w : World) (l : List UInt8) (e : Ending) (w' : World) : Prop :=
  ∃ A' c', e = .returned (.slice A' l.length c') ∧ l.length ≤ c' ∧ c' ≤ maxLen ∧ Sy w' w.heap.size A' (l.map cell8) ∧ Below w.heap.size w w'
theorem GaveY.to {w : World} {l : List UInt8} {e : Ending} {w' : World} (h : GaveY w l e w') : GaveS w l e w' := by
  obtain ⟨A, c, h1, h2, h3, h4, h5⟩ := h
  exact ⟨A, c, h1, h2, h3, h4.sv, h5⟩
theorem Sy.take {w : World} {lo : Nat} {A : Option Addr} {xs : List Value} (h : Sy w lo A xs) (k : Nat) : Sy w lo A (xs.take k) := by
  intro hn
  obtain ⟨b, off, rfl, h1, hb, hc⟩ := h (by rintro rfl; simp at hn)
  exact ⟨b, off, rfl, h1, hb, fun i v hv => hc i v (by rw [List.getElem?_take] at hv; split at hv; exact hv; cases hv)⟩
theorem GaveB.to {w : World} {l : List UInt8} {e : Ending} {w' : World} (h : GaveB w l e w') : GaveS w l e w' := by
  obtain ⟨A, c, h1, h2, h3, h4, h5⟩ := h
  exact ⟨A, c, h1, h2, h3, Sv.of_own h4, h5⟩

set_option maxRecDepth 100000 in
set_option maxHeartbeats 400000 in
theorem rexpand_none (sec : List UInt8) (vi : Value) (n : Int) (w : World) (hsec : sec.length = 32) (hn : n < 1 ∨ 8160 < n) :
    Calls Tryd.prog 59 #[.agg (bRow sec), vi, .int .i64 n] w (GaveY w []) := by
  have hq : (∃ _ : decide (n < 1) = true, True) ∨ (∃ _ : decide (n < 1) = false, ∃ _ : decide (8160 < n) = true, True) := by
    by_cases a1 : n < 1
    · exact .inl ⟨decide_eq_true a1, trivial⟩
    · exact .inr ⟨decide_eq_false a1, decide_eq_true (by omega), trivial⟩
  have hb : Below w.heap.size w (w.alloc (.cells (bRow sec) 22)) := (Below.refl _ _).alloc (Nat.le_refl _) _
  have HSZ : (bRow sec).size = 32 := by rw [bRow_size, hsec]
  clear hn
  rcases hq with ⟨h1, _⟩ | ⟨h1, h2, _⟩
  all_goals
    go_enter Tryd.func59, Tryd.ntmps59
    go_wp2
    go_ret
    exact ⟨none, 0, rfl, Nat.le_refl _, Nat.zero_le _, Sy.nil _ _ _, hb⟩

set_option maxRecDepth 100000 in
set_option maxHeartbeats 1600000 in
theorem rexpand_in (sec info : List UInt8) (A : Option Addr) (m c n : Nat) (w : World) (hsec : sec.length = 32)
    (hl : info.length = m) (hlc : m ≤ c) (hcm : c ≤ maxLen) (hs : Sl w w.heap.size A info) (hm : m ≤ 1000000) (hn1 : 1 ≤ n) (hn : n ≤ 8160) :
    Calls Tryd.prog 59 #[.agg (bRow sec), .slice A m c, .int .i64 (n : Int)] w (GaveY w (expK kW sec info n)) := by
  obtain ⟨i0, hi0, hz0, hz1, hz2⟩ := info_parts info8
  obtain ⟨ks, hks⟩ : ∃ ks, ks = kW := ⟨_, rfl⟩
  have hmc := fun (text : List UInt8) => rmac_any sec text
  rw [← hks] at hmc
  rw [← hks]
  have HMC := Lib.hid hmc
  clear hks hmc
  have HSEC := Deep.mk hsec
  have HL := Deep.mk hl
  have HLC := Lib.hid hlc
  have HCM := Lib.hid hcm
  have HSZ : (bRow sec).size = 32 := by rw [bRow_size, hsec]
  have t1 : decide ((n : Int) < 1) = false := decide_eq_false (by omega)
  have t2 : decide ((8160 : Int) < (n : Int)) = false := decide_eq_false (by omega)
  have hW0 : Below w.heap.size w (w.alloc (.cells (bRow sec) 22)) := (Below.refl _ _).alloc (Nat.le_refl _) _
  have h2 : Wh (w.alloc (.cells (bRow sec) 22)) w.heap.size 22 (bRow sec) := Wh.new _ _ _
  have HSW := Lib.hid ((Sv.below hs hW0).keep hW0.size (fun _ _ => rfl))
  clear hl hs hsec
  go_enter Tryd.func59, Tryd.ntmps59
  go_upto_region 3 with (fail)
  clear t1 t2
  generalize w.alloc (.cells (bRow sec) 22) = W at *
  obtain ⟨r, hr⟩ : ∃ r, r = w.heap.size := ⟨_, rfl⟩
  rw [← hr] at h2
  rw [← hr]
  have hwr : w.heap.size ≤ r := by omega
  have hrW : r < W.heap.size := h2.lt
  have H2 := Lib.hid h2
  have HW0 := Lib.hid hW0
  have hwW : w.heap.size ≤ W.heap.size := hW0.size
  clear hr h2 hW0
  go_wp2
  go_loopw [7, 8] (fun v i wr => ∃ k : Nat, k ≤ 32 ∧ i = .int .i64 (k : Int) ∧ Hid (wr.ownsRow W.heap.size 5 1 v k ((sec.take k).map cell8)) ∧ Hid (Below W.heap.size W wr)) (fun _ i _ => 32 - (intOf i).toNat)
  case atStart => exact ⟨0, by omega, rfl, Lib.hid (by simpa using World.ownsRow_nil _ _ _ 1), Lib.hid (Below.refl _ _)⟩
  case round =>
    obtain ⟨k, hk, rfl, HO, HB⟩ := hrel
    by_cases hlt : k < 32
    · have hx : wr.cell? ⟨r, k, none⟩ = some (.int .u8 ((sec.getD k 0).toNat : Int)) := by
        rw [(H2.out.below HB.out hrW).cell, bRow, List.getElem?_toArray, List.getElem?_map, List.getElem?_eq_getElem (by rw [HSEC.out]; exact hlt)]
        simp [List.getD, HSEC.out, hlt, cell8]
      have HST : Deep ((sec.take k).map cell8 ++ [cell8 (sec.getD k 0)] = (sec.take (k + 1)).map cell8) := ⟨by rw [take_snoc sec k (by rw [HSEC.out]; exact hlt), List.map_append]; rfl⟩
      obtain ⟨x, hxx⟩ : ∃ x, x = sec.getD k 0 := ⟨_, rfl⟩
      rw [← hxx] at hx HST
      have t2 : decide ((k : Int) < 32) = true := decide_eq_true (by omega)
      have HOA := Lib.hid (HO.out.alloc (.cells #[Value.int .u8 (x.toNat : Int)] 5))
      have hsz : W.heap.size ≤ wr.heap.size := HB.out.size
      clear hxx
      go_wp2_with (at_builtin; refine wpList_append_sv _ rfl (.tmp 25) (.tmp 29) _ rfl W.heap.size 5 i0 _ 1 Tryd.underlying23 hi0 hz0 hz1 hz2 rfl _ k _ rfl HOA.out (wr.heap.size + 1) (some ⟨wr.heap.size, 0, none⟩) 1 1 [Value.int .u8 (x.toNat : Int)] rfl (sv_new wr _ _) rfl (fun u hu => by simp at hu; subst hu; rfl) (by unfold maxLen; omega) (by omega) (by simp; omega) ?_; intro v5 w5 hown5 hg5 hno5; have HO5 := Lib.hid hown5; have HG5 := Lib.hid hg5; clear hown5 hg5 hno5)
      have ho5 : w5.ownsRow W.heap.size 5 1 v5 (k + 1) ((sec.take (k + 1)).map cell8) := by
        rw [← HST.out]
        exact HO5.out
      have HB5 := Lib.hid ((HB.out.alloc hsz (.cells #[Value.int .u8 (x.toNat : Int)] 5)).grown HG5.out (by simp; omega) (fun q hq => (HOA.out.lt q hq).1))
      exact ⟨⟨k + 1, by omega, by go_num, Lib.hid ho5, HB5⟩, by simp [intOf]; omega⟩
    · have hk32 : k = 32 := by omega
      have ho := HO.out
      rw [hk32, List.take_of_length_le (by rw [HSEC.out]; omega)] at ho
      obtain ⟨A5, c5, rfl, h5a, h5b⟩ := own_form ho
      have HS5 : Hid (Sl wr wr.heap.size A5 sec) := Lib.hid (Sv.of_own ho)
      have HB5 := Lib.hid (HW0.out.trans (HB.out.mono hwW))
      have HS6 := Lib.hid ((Sv.below HSW.out HB.out).keep HB.out.size (fun _ _ => rfl))
      have t2 : decide ((k : Int) < 32) = false := decide_eq_false (by omega)
      clear HO HB HW0 ho hk hk32 hlt hwW hrW H2 HSW
      generalize wr = w6 at *
      have hww6 : w.heap.size ≤ w6.heap.size := HB5.out.size
      go_wp2
      go_loopw [9, 10, 11] (fun vb vl vc wr => ∃ (i bl lL cL : Nat) (AL : Option Addr), i ≤ 255 ∧ 32 * i < n + 32 ∧ bl ≤ 32 * i ∧ 32 * i ≤ bl ∧ vc = .int .i64 ((i : Int) + 1) ∧ Hid (wr.ownsRow w6.heap.size 5 1 vb bl ((outK ks sec info i).map cell8)) ∧ vl = .slice AL lL cL ∧ lL ≤ cL ∧ cL ≤ maxLen ∧ lL ≤ 32 ∧ Deep ((tK ks sec info i).length = lL) ∧ Hid (Sl wr wr.heap.size AL (tK ks sec info i)) ∧ Hid (Below w6.heap.size w6 wr)) (fun vb _ _ _ => n - lenOf vb)
      case atStart => exact ⟨0, 0, 0, 0, none, by omega, by omega, by omega, by omega, rfl, Lib.hid (by simpa [outK] using World.ownsRow_nil _ _ _ 1), rfl, Nat.le_refl _, by unfold maxLen; omega, by omega, ⟨rfl⟩, Lib.hid (Sv.nil _ _ _), Lib.hid (Below.refl _ _)⟩
      case round =>
        obtain ⟨i, bl, lL, cL, AL, hi255, hin, hbl1, hbl2, rfl, HOW, rfl, hlc2, hcl2, hl32, HTL, HTS, HBW⟩ := hrel
        obtain ⟨A7, c7, rfl, h7a, h7b⟩ := own_form HOW.out
        by_cases hlt : bl < n
        · have t3 : decide (bl < n) = true := decide_eq_true hlt
          have h6r : w6.heap.size ≤ wr.heap.size := HBW.out.size
          have HO0 := Lib.hid (World.ownsRow_made (base := wr.heap.size) (e := 5) (size := 1) wr #[] 0 (Nat.le_refl _) (Nat.zero_le _) rfl)
          have hB0 : Below wr.heap.size wr (wr.alloc (.cells #[] 5)) := (Below.refl _ _).alloc (Nat.le_refl _) _
          have HTS0 := Lib.hid (Sv.below HTS.out hB0)
          have HB0 := Lib.hid hB0
          have HTC : Deep (((tK ks sec info i).map cell8).length = lL) := ⟨by rw [List.length_map]; exact HTL.out⟩
          have HIC : Deep ((info.map cell8).length = m) := ⟨by rw [List.length_map]; exact HL.out⟩
          have HSI := Lib.hid ((Sv.below HS6.out HBW.out).keep h6r (fun _ _ => rfl))
          clear hB0
          have hi254 : i ≤ 254 := by omega
          have hie : (i : Int) + 1 ≤ 255 := by omega
          obtain ⟨bv, hbv⟩ : ∃ bv, bv = UInt8.ofNat (i + 1) := ⟨_, rfl⟩
          have HBV : Deep (Value.int .u8 ((i : Int) + 1) = cell8 bv) := ⟨by rw [hbv, ← cell_nat (by omega : i + 1 < 256)]; simp⟩
          have HTK : Deep (macK ks sec (tK ks sec info i ++ (info ++ [bv])) = tK ks sec info (i + 1)) := ⟨by rw [hbv]; rfl⟩
          clear hbv
          go_wp2_with (first
            | (at_builtin; refine wpList_append_sv _ rfl (.tmp 37) (.tmp 38) _ rfl wr.heap.size 5 i0 _ 1 Tryd.underlying23 hi0 hz0 hz1 hz2 rfl (.slice (some ⟨wr.heap.size, 0, none⟩) 0 0) 0 [] rfl HO0.out wr.heap.size AL lL cL ((tK ks sec info i).map cell8) rfl HTS0.out HTC.out (cell8_one _) (by unfold maxLen; omega) (by omega) (by simp) ?_; intro v1 w1 hown1 hg1 hno1; rw [Nat.zero_add, List.nil_append] at hown1; have HB1 := Lib.hid (HB0.out.grown hg1 HB0.out.size (fun q hq => (HO0.out.lt q hq).1)); have HO1 := Lib.hid hown1; have HSI1 := Lib.hid (Sv.below HSI.out HB1.out); have hw1 : wr.heap.size ≤ w1.heap.size := HB1.out.size; obtain ⟨A1, c1, rfl, h1a, h1b⟩ := own_form hown1; clear hown1 hg1 hno1)
            | (at_builtin; refine wpList_append_sv _ rfl (.tmp 39) (.tmp 40) _ rfl wr.heap.size 5 i0 _ 1 Tryd.underlying23 hi0 hz0 hz1 hz2 rfl (.slice A1 lL c1) lL _ rfl HO1.out wr.heap.size A m c (info.map cell8) rfl HSI1.out HIC.out (cell8_one _) (by unfold maxLen; omega) (by omega) hw1 ?_; intro v2 w2 hown2 hg2 hno2; have HB2 := Lib.hid (HB1.out.grown hg2 hw1 (fun q hq => (HO1.out.lt q hq).1)); have HO2 := Lib.hid (hown2.alloc (.cells #[Value.int .u8 ((i : Int) + 1)] 5)); have hw2 : wr.heap.size ≤ w2.heap.size := HB2.out.size; obtain ⟨A2, c2, rfl, h2a, h2b⟩ := own_form hown2; clear hown2 hg2 hno2)
            | (at_builtin; refine wpList_append_sv _ rfl (.tmp 41) (.tmp 44) _ rfl wr.heap.size 5 i0 _ 1 Tryd.underlying23 hi0 hz0 hz1 hz2 rfl (.slice A2 (lL + m) c2) (lL + m) _ rfl HO2.out (w2.heap.size + 1) (some ⟨w2.heap.size, 0, none⟩) 1 1 [Value.int .u8 ((i : Int) + 1)] rfl (sv_new w2 _ _) rfl (fun u hu => by simp at hu; subst hu; rfl) (by unfold maxLen; omega) (by omega) (by simp; omega) ?_; intro v3 w3 hown3 hg3 hno3; have HB3 := Lib.hid ((HB2.out.alloc hw2 (.cells #[Value.int .u8 ((i : Int) + 1)] 5)).grown hg3 (by simp; omega) (fun q hq => (HO2.out.lt q hq).1)); have HO3 := Lib.hid hown3; obtain ⟨A3, c3, rfl, h3a, h3b⟩ := own_form hown3; clear hown3 hg3 hno3))
          have ho3 := HO3.out
          rw [HBV.out, show ((tK ks sec info i).map cell8 ++ info.map cell8 ++ [cell8 bv]) = (tK ks sec info i ++ (info ++ [bv])).map cell8 by simp] at ho3
          have hT3 : Sl w3 w3.heap.size A3 (tK ks sec info i ++ (info ++ [bv])) := Sv.of_own ho3
          have hTl : (tK ks sec info i ++ (info ++ [bv])).length = lL + m + 1 := by
            rw [List.length_append, List.length_append, HTL.out, HL.out, List.length_singleton]
            omega
          have hb6 : Below w6.heap.size w6 w3 := HBW.out.trans (HB3.out.mono h6r)
          have hK3 : Sl w3 w3.heap.size A5 sec := (Sv.below HS5.out hb6).keep hb6.size (fun _ _ => rfl)
          have HOW3 := Lib.hid (own_below HOW.out HB3.out)
          have HB63 := Lib.hid hb6
          have h63 : w6.heap.size ≤ w3.heap.size := hb6.size
          refine (HMC.out (tK ks sec info i ++ (info ++ [bv])) A5 32 c5 A3 (lL + m + 1) c3 w3 HSEC.out h5a h5b hK3 (by omega) hTl h3a h3b hT3 (by omega)).mono ?_
          rintro e w4 ⟨rfl, hb4⟩
          rw [HTK.out]
          obtain ⟨out, hout⟩ : ∃ out, out = tK ks sec info (i + 1) := ⟨_, rfl⟩
          rw [← hout]
          have HOL : Deep (out.length = 32) := ⟨by rw [hout]; exact tK_len _ _ _ _⟩
          have HOUT := Deep.mk hout
          have HB4 := Lib.hid hb4
          clear hout hb4 hK3 hTl hT3 hb6 ho3 HO3 HB3 HO2 HB2 HO1 HB1 HSI1 HSI HTS0 HO0 HB0 HTS HBW HOW
          go_upto_region 14 with (refine wpList_store_row rfl 22 (.tmp 13) (.tmp 48) rfl w4.heap.size (bRow out) rfl rfl _ _ (Wh.new w4 _ _) (info_bRow HOL.out) (by rw [bRow_size, HOL.out]; rfl) (bRow_one _) ?_; rw [World.setRow_alloc_new])
          have hb5 : Below w3.heap.size w3 (w4.alloc (.cells (bRow out) 22)) := HB4.out.alloc HB4.out.size _
          have hg5 : Wh (w4.alloc (.cells (bRow out) 22)) w4.heap.size 22 (bRow out) := Wh.new _ _ _
          obtain ⟨g, hg⟩ : ∃ g, g = w4.heap.size := ⟨_, rfl⟩
          rw [← hg] at hg5
          rw [← hg]
          generalize w4.alloc (.cells (bRow out) 22) = w5 at *
          have hgw : g < w5.heap.size := hg5.lt
          have HG5 := Lib.hid hg5
          have HOW5 := Lib.hid (own_below HOW3.out hb5)
          have HB65 := Lib.hid (HB63.out.trans (hb5.mono h63))
          have h65 : w6.heap.size ≤ w5.heap.size := Nat.le_trans h63 hb5.size
          clear hg hb5 hg5 HB4 HOW3 HB63
          go_wp2
          go_loopw [10, 14] (fun v iv wq => ∃ q : Nat, q ≤ 32 ∧ iv = .int .i64 (q : Int) ∧ Hid (wq.ownsRow w5.heap.size 5 1 v q ((out.take q).map cell8)) ∧ Hid (Below w5.heap.size w5 wq)) (fun _ iv _ => 32 - (intOf iv).toNat)
          case atStart => exact ⟨0, by omega, rfl, Lib.hid (by simpa using World.ownsRow_nil _ _ _ 1), Lib.hid (Below.refl _ _)⟩
          case round =>
            obtain ⟨q, hq, rfl, HO, HB⟩ := hrel
            by_cases hlq : q < 32
            · have hx : wr.cell? ⟨g, q, none⟩ = some (.int .u8 ((out.getD q 0).toNat : Int)) := by
                rw [(HG5.out.below HB.out hgw).cell, bRow, List.getElem?_toArray, List.getElem?_map, List.getElem?_eq_getElem (by rw [HOL.out]; exact hlq)]
                simp [List.getD, HOL.out, hlq, cell8]
              have HST : Deep ((out.take q).map cell8 ++ [cell8 (out.getD q 0)] = (out.take (q + 1)).map cell8) := ⟨by rw [take_snoc out q (by rw [HOL.out]; exact hlq), List.map_append]; rfl⟩
              obtain ⟨x, hxx⟩ : ∃ x, x = out.getD q 0 := ⟨_, rfl⟩
              rw [← hxx] at hx HST
              have t4 : decide ((q : Int) < 32) = true := decide_eq_true (by omega)
              have HOA := Lib.hid (HO.out.alloc (.cells #[Value.int .u8 (x.toNat : Int)] 5))
              have hsz : w5.heap.size ≤ wr.heap.size := HB.out.size
              clear hxx
              go_wp2_with (at_builtin; refine wpList_append_sv _ rfl (.tmp 53) (.tmp 57) _ rfl w5.heap.size 5 i0 _ 1 Tryd.underlying23 hi0 hz0 hz1 hz2 rfl _ q _ rfl HOA.out (wr.heap.size + 1) (some ⟨wr.heap.size, 0, none⟩) 1 1 [Value.int .u8 (x.toNat : Int)] rfl (sv_new wr _ _) rfl (fun u hu => by simp at hu; subst hu; rfl) (by unfold maxLen; omega) (by omega) (by simp; omega) ?_; intro v8 w8 hown8 hg8 hno8; have HO8 := Lib.hid hown8; have HG8 := Lib.hid hg8; clear hown8 hg8 hno8)
              have ho8 : w8.ownsRow w5.heap.size 5 1 v8 (q + 1) ((out.take (q + 1)).map cell8) := by
                rw [← HST.out]
                exact HO8.out
              have HB8 := Lib.hid ((HB.out.alloc hsz (.cells #[Value.int .u8 (x.toNat : Int)] 5)).grown HG8.out (by simp; omega) (fun p hp => (HOA.out.lt p hp).1))
              exact ⟨⟨q + 1, by omega, by go_num, Lib.hid ho8, HB8⟩, by simp [intOf]; omega⟩
            · have hq32 : q = 32 := by omega
              have ho := HO.out
              rw [hq32, List.take_of_length_le (by rw [HOL.out]; omega)] at ho
              obtain ⟨A10, c10, rfl, h10a, h10b⟩ := own_form ho
              have HSY : Hid (Sy wr w5.heap.size A10 (out.map cell8)) := Lib.hid (Sy.of_own ho (Nat.le_refl _))
              have HS10 := Lib.hid (HSY.out.sv)
              have HOC : Deep ((out.map cell8).length = 32) := ⟨by rw [List.length_map]; exact HOL.out⟩
              have HOWq := Lib.hid (own_below HOW5.out HB.out)
              have HBq := Lib.hid (HB65.out.trans (HB.out.mono h65))
              have h6q : w6.heap.size ≤ wr.heap.size := Nat.le_trans h65 HB.out.size
              have HBK : Hid (∀ p, (Value.slice A7 bl c7).ownBlock = some p → p < w5.heap.size) := Lib.hid (fun p hp => (HOW5.out.lt p hp).2)
              have t4 : decide ((q : Int) < 32) = false := decide_eq_false (by omega)
              clear HO HB ho hq hq32 hlq HG5 HOW5 HB65
              go_wp2_with (at_builtin; refine wpList_append_sv _ rfl (.tmp 59) (.tmp 60) _ rfl w6.heap.size 5 i0 _ 1 Tryd.underlying23 hi0 hz0 hz1 hz2 rfl (.slice A7 bl c7) bl _ rfl HOWq.out wr.heap.size A10 32 c10 (out.map cell8) rfl HS10.out HOC.out (cell8_one _) (by unfold maxLen; omega) (by omega) h6q ?_; intro v9 w9 hown9 hg9 hno9; have HO9 := Lib.hid hown9; have HG9 := Lib.hid hg9; clear hown9 hg9 hno9)
              have ho9 := HO9.out
              rw [HOUT.out, ← List.map_append, show outK ks sec info i ++ tK ks sec info (i + 1) = outK ks sec info (i + 1) from rfl] at ho9
              obtain ⟨A9, c9, rfl, h9a, h9b⟩ := own_form ho9
              have hS9 : Sl w9 w9.heap.size A10 (tK ks sec info (i + 1)) := by
                rw [← HOUT.out]
                exact (HSY.out.grown HG9.out (fun p hp => HBK.out p hp)).sv
              have hB9 : Below w6.heap.size w6 w9 := HBq.out.grown HG9.out HBq.out.size (fun p hp => (HOWq.out.lt p hp).1)
              exact ⟨⟨i + 1, bl + 32, 32, c10, A10, by omega, by omega, by omega, by omega, rfl, Lib.hid ho9, rfl, h10a, h10b, Nat.le_refl _, ⟨tK_len _ _ _ _⟩, Lib.hid hS9, Lib.hid hB9⟩, by simp only [lenOf]; omega⟩
        · have t3 : decide (bl < n) = false := decide_eq_false hlt
          have hnb : n ≤ bl := by omega
          have hle : n ≤ c7 := by omega
          have HE : Deep ((outK ks sec info i).take n = expK ks sec info n) := ⟨outK_take _ _ _ _ _ (by omega)⟩
          have hS := Sy.take (Sy.of_own (lo := w.heap.size) HOW.out hww6) n
          rw [← List.map_take, HE.out] at hS
          have HSF := Lib.hid hS
          have HEL : Deep ((expK ks sec info n).length = n) := ⟨expK_len _ _ _ _⟩
          have HBF := Lib.hid (HB5.out.trans (HBW.out.mono hww6))
          clear hS HE HTL HTS HBW HOW
          go_wp2
          go_ret
          refine ⟨A7, c7, ?_, ?_, h7b, HSF.out, HBF.out⟩
          · rw [HEL.out]; rfl
          · rw [HEL.out]; exact hle

theorem rexpand_young (sec info : List UInt8) (A : Option Addr) (m c : Nat) (n : Int) (w : World) (hsec : sec.length = 32)
    (hl : info.length = m) (hlc : m ≤ c) (hcm : c ≤ maxLen) (hs : Sl w w.heap.size A info) (hm : m ≤ 1000000) :
    Calls Tryd.prog 59 #[.agg (bRow sec), .slice A m c, .int .i64 n] w (GaveY w (expI kW sec info n)) := by
  by_cases h : n < 1 ∨ 8160 < n
  · rw [expI, if_pos h]
    exact rexpand_none sec _ n w hsec h
  · rw [expI, if_neg h]
    obtain ⟨k, rfl⟩ := Int.eq_ofNat_of_zero_le (by omega : 0 ≤ n)
    rw [Int.toNat_natCast]
    exact rexpand_in sec info A m c k w hsec hl hlc hcm hs hm (by omega) (by omega)
theorem rexpand_any (sec info : List UInt8) (A : Option Addr) (m c : Nat) (n : Int) (w : World) (hsec : sec.length = 32)
    (hl : info.length = m) (hlc : m ≤ c) (hcm : c ≤ maxLen) (hs : Sl w w.heap.size A info) (hm : m ≤ 1000000) :
    Calls Tryd.prog 59 #[.agg (bRow sec), .slice A m c, .int .i64 n] w (GaveS w (expI kW sec info n)) :=
  (rexpand_young sec info A m c n w hsec hl hlc hcm hs hm).mono fun _ _ h => h.to
end Go.Proofs.YtblclinfcdalaaaDoor
