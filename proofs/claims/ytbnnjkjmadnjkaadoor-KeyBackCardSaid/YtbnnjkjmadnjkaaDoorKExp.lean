/-
  kdf.Expand.
-/
import Derived.Test.YtbnnjkjmadnjkaaDoorKMac
import Derived.Test.YtbnnjkjmadnjkaaDoorSk10
namespace Go.Proofs.YtbnnjkjmadnjkaaDoor
open Go.RowKit
set_option linter.unusedVariables false

set_option maxRecDepth 100000 in
set_option maxHeartbeats 400000 in
theorem expand_none (sec : List UInt8) (vi : Value) (n : Int) (w : World) (hsec : sec.length = 32) (hn : n < 1 ∨ 8160 < n) :
    Calls Tryd.prog 71 #[.agg (bRow sec), vi, .int .i64 n] w (GaveB w []) := by
  have hq : (∃ _ : decide (n < 1) = true, True) ∨ (∃ _ : decide (n < 1) = false, ∃ _ : decide (8160 < n) = true, True) := by
    by_cases a1 : n < 1
    · exact .inl ⟨decide_eq_true a1, trivial⟩
    · exact .inr ⟨decide_eq_false a1, decide_eq_true (by omega), trivial⟩
  have hb : Below w.heap.size w (w.alloc (.cells (bRow sec) 22)) := (Below.refl _ _).alloc (Nat.le_refl _) _
  have HSZ : (bRow sec).size = 32 := by rw [bRow_size, hsec]
  clear hn
  rcases hq with ⟨h1, _⟩ | ⟨h1, h2, _⟩
  all_goals
    go_enter Tryd.func71, Tryd.ntmps71
    go_wp2
    go_ret
    exact ⟨none, 0, rfl, Nat.le_refl _, Nat.zero_le _, by simpa using World.ownsRow_nil _ _ _ 1, hb⟩

set_option maxRecDepth 100000 in
set_option maxHeartbeats 1600000 in
theorem expand_in (ks : List W32) (sec info : List UInt8) (A : Option Addr) (m c n : Nat) (w : World) (hks : ks.length = 64) (hK : KT w ks) (hKb : 0 < w.heap.size) (hsec : sec.length = 32)
    (hl : info.length = m) (hlc : m ≤ c) (hcm : c ≤ maxLen) (hs : Sl w w.heap.size A info) (hm : m ≤ 1000000) (hn1 : 1 ≤ n) (hn : n ≤ 8160) :
    Calls Tryd.prog 71 #[.agg (bRow sec), .slice A m c, .int .i64 (n : Int)] w (GaveB w (expK ks sec info n)) := by
  obtain ⟨i0, hi0, hz0, hz1, hz2⟩ := info_parts info8
  have HKS := Lib.hid hks
  have HSEC := Deep.mk hsec
  have HL := Deep.mk hl
  have HLC := Lib.hid hlc
  have HCM := Lib.hid hcm
  have HSZ : (bRow sec).size = 32 := by rw [bRow_size, hsec]
  have t1 : decide ((n : Int) < 1) = false := decide_eq_false (by omega)
  have t2 : decide ((8160 : Int) < (n : Int)) = false := decide_eq_false (by omega)
  have hW0 : Below w.heap.size w (w.alloc (.cells (bRow sec) 22)) := (Below.refl _ _).alloc (Nat.le_refl _) _
  have h2 : Wh (w.alloc (.cells (bRow sec) 22)) w.heap.size 22 (bRow sec) := Wh.new _ _ _
  have HKW := Lib.hid (hK.below hKb hW0)
  have HSW := Lib.hid ((Sv.below hs hW0).keep hW0.size (fun _ _ => rfl))
  clear hks hK hl hs hsec
  go_enter Tryd.func71, Tryd.ntmps71
  go_upto_region 3 with (fail)
  clear t1 t2
  generalize w.alloc (.cells (bRow sec) 22) = W at *
  obtain ⟨r, hr⟩ : ∃ r, r = w.heap.size := ⟨_, rfl⟩
  rw [← hr] at h2
  rw [← hr]
  have hwr : w.heap.size ≤ r := by omega
  have hrW : r < W.heap.size := h2.lt
  have HR := Lib.hid hr
  have H2 := Lib.hid h2
  have HW0 := Lib.hid hW0
  have hKbW : 0 < W.heap.size := Nat.lt_of_lt_of_le hKb hW0.size
  have hwW : w.heap.size ≤ W.heap.size := hW0.size
  clear hr h2 hW0
  have HO0 := Lib.hid (World.ownsRow_made (base := W.heap.size) (e := 5) (size := 1) W (Array.replicate n (Value.int .u8 0)) n (Nat.le_refl _) (by unfold maxLen; omega) (by simp))
  have hB0 : Below W.heap.size W (W.alloc (.cells (Array.replicate n (Value.int .u8 0)) 5)) := (Below.refl _ _).alloc (Nat.le_refl _) _
  have HB0 := Lib.hid hB0
  clear hB0
  go_upto_region 4 with (at_make; (refine wpList_make_mn _ rfl _ _ _ rfl 5 i0 (.int .u8 0) Tryd.underlying28 hi0 hz0 hz1 rfl _ _ _ _ 0 n rfl rfl rfl rfl (by omega) (by rw [hz2]; omega) (by omega) ?_))
  generalize W.alloc (.cells (Array.replicate n (Value.int .u8 0)) 5) = W1 at *
  obtain ⟨g7, hg7⟩ : ∃ g7, g7 = W.heap.size := ⟨_, rfl⟩
  have HG7 := Lib.hid hg7
  rw [← hg7] at HO0
  rw [← hg7]
  clear hg7
  go_wp2
  go_loopw [7, 8, 9] (fun vb vl vc wr => ∃ (i bl lL cL : Nat) (AL : Option Addr) (ci : Int), i ≤ 255 ∧ 32 * i < n + 32 ∧ bl ≤ n ∧ bl ≤ 32 * i ∧ (n ≤ bl ∨ 32 * i ≤ bl) ∧ vc = .int .u8 ci ∧ Deep (i ≤ 254 → ci = (i : Int) + 1) ∧ Hid (wr.ownsRow g7 5 1 vb bl (((outK ks sec info i).take n).map cell8)) ∧ vl = .slice AL lL cL ∧ lL ≤ cL ∧ cL ≤ 32 ∧ Deep ((tK ks sec info i).length = lL) ∧ Hid (Sl wr wr.heap.size AL (tK ks sec info i)) ∧ Hid (Below W.heap.size W wr)) (fun vb _ _ _ => n - lenOf vb)
  case atStart =>
    have HO0' : Hid (W1.ownsRow g7 5 1 (.slice (some ⟨g7, 0, none⟩) 0 n) 0 (((outK ks sec info 0).take n).map cell8)) := Lib.hid (by simpa [outK] using HO0.out)
    exact ⟨0, 0, 0, 0, none, 1, by omega, by omega, by omega, by omega, by omega, rfl, ⟨fun _ => rfl⟩, HO0', rfl, Nat.le_refl _, by omega, ⟨rfl⟩, Lib.hid (Sv.nil _ _ _), HB0⟩
  case round =>
    clear HO0 HB0
    obtain ⟨i, bl, lL, cL, AL, ci, hi255, hin, hbl1, hbl2, hbl3, rfl, HCI, HOW, rfl, hlc2, hcl2, HTL, HTS, HBW⟩ := hrel
    obtain ⟨A7, c7, rfl, h7a, h7b⟩ := own_form HOW.out
    by_cases hlt : 32 * i < n
    · have HBL : Deep (bl = 32 * i) := ⟨by omega⟩
      have hbn : bl < n := by omega
      clear hbl1 hbl2 hbl3
      obtain rfl : ci = (i : Int) + 1 := HCI.out (by omega)
      have t1 : decide (bl < n) = true := decide_eq_true (by omega)
      have hww : W.heap.size ≤ wr.heap.size := HBW.out.size
      obtain ⟨w1, hw1⟩ : ∃ w1, w1 = wr.alloc (.cells #[Value.int .u8 ((i : Int) + 1)] 5) := ⟨_, rfl⟩
      have hb1 : Below wr.heap.size wr w1 := by rw [hw1]; exact (Below.refl _ _).alloc (Nat.le_refl _) _
      have hbW1 : Below W.heap.size W w1 := HBW.out.trans (hb1.mono hww)
      have hsz1 : w1.heap.size = wr.heap.size + 1 := by rw [hw1]; simp
      have hbyte : Sl w1 w1.heap.size (some ⟨wr.heap.size, 0, none⟩) [UInt8.ofNat (i + 1)] := by
        have h := sv_new wr (Value.int .u8 ((i : Int) + 1)) 5
        rw [← hw1, ← hsz1] at h
        have e : cell8 (UInt8.ofNat (i + 1)) = Value.int .u8 ((i : Int) + 1) := by
          unfold cell8
          rw [UInt8.toNat_ofNat', Nat.mod_eq_of_lt (by omega)]
          simp
        unfold Sl
        rw [List.map_cons, List.map_nil, e]
        exact h
      have hP1 : PartsAt w1 w1.heap.size [.slice AL lL cL, .slice A m c, .slice (some ⟨wr.heap.size, 0, none⟩) 1 1] [tK ks sec info i, info, [UInt8.ofNat (i + 1)]] :=
        (((PartsAt.nil w1 w1.heap.size).cons (l := [UInt8.ofNat (i + 1)]) (n := 1) rfl (Nat.le_refl _) (by unfold maxLen; omega) hbyte).cons HL.out HLC.out HCM.out ((Sv.below HSW.out hbW1).keep hbW1.size (fun _ _ => rfl))).cons HTL.out hlc2 (by unfold maxLen; omega) ((Sv.below HTS.out hb1).keep hb1.size (fun _ _ => rfl))
      have hfl : [tK ks sec info i, info, [UInt8.ofNat (i + 1)]].flatten.length ≤ 15000000 := by
        simp [HTL.out, HL.out]
        omega
      have hsec1 : Sl w1 w1.heap.size (some ⟨r, 0, none⟩) sec := sl_of_wh (H2.out.below hbW1 hrW)
      have HP1 := Lib.hid hP1
      have HS1 := Lib.hid hsec1
      have HF1 := Lib.hid hfl
      have HB1 := Lib.hid hb1
      have HBW1 := Lib.hid hbW1
      have HK1 := Lib.hid (HKW.out.below hKbW hbW1)
      have hKb1 : 0 < w1.heap.size := Nat.lt_of_lt_of_le hKbW hbW1.size
      have hw1w : W.heap.size ≤ w1.heap.size := hbW1.size
      have HW1 := Deep.mk hw1
      clear hP1 hsec1 hfl hb1 hbW1 hbyte hw1
      go_wp2_with fail
      rw [← HW1.out, ← hsz1]
      refine (mac_of ks sec (some ⟨r, 0, none⟩) 32 32 [tK ks sec info i, info, [UInt8.ofNat (i + 1)]] [.slice AL lL cL, .slice A m c, .slice (some ⟨wr.heap.size, 0, none⟩) 1 1] 3 w1 HKS.out HK1.out hKb1 HSEC.out (Nat.le_refl _) (by unfold maxLen; omega) HS1.out (by omega) rfl (by omega) HP1.out HF1.out).mono ?_
      rintro e w2 ⟨rfl, hb2⟩
      obtain ⟨out, hout⟩ : ∃ out, out = macK ks sec [tK ks sec info i, info, [UInt8.ofNat (i + 1)]].flatten := ⟨_, rfl⟩
      rw [← hout]
      have HOL : Deep (out.length = 32) := ⟨by rw [hout]; exact macK_len _ _ _⟩
      have HOUT : Deep (out = tK ks sec info (i + 1)) := ⟨by rw [hout, tK]; simp⟩
      have HB2 := Lib.hid (HB1.out.trans (hb2.mono (by omega)))
      clear hout hb2 HP1 HS1 HF1 HB1 HBW1 HK1 hKb1 HW1
      go_upto_region 9 with (refine wpList_store_row rfl 22 (.tmp 10) (.tmp 31) rfl w2.heap.size (bRow out) rfl rfl _ _ (Wh.new w2 _ _) (info_bRow HOL.out) (by rw [bRow_size, HOL.out]; rfl) (bRow_one _) ?_; rw [World.setRow_alloc_new])
      have hb3 : Below wr.heap.size wr (w2.alloc (.cells (bRow out) 22)) := HB2.out.alloc HB2.out.size _
      have hg3 : Wh (w2.alloc (.cells (bRow out) 22)) w2.heap.size 22 (bRow out) := Wh.new _ _ _
      have hwr2 : wr.heap.size ≤ w2.heap.size := HB2.out.size
      obtain ⟨g, hg⟩ : ∃ g, g = w2.heap.size := ⟨_, rfl⟩
      rw [← hg] at hg3 hwr2
      rw [← hg]
      generalize w2.alloc (.cells (bRow out) 22) = w3 at *
      have HO3 := Lib.hid (own_below HOW.out hb3)
      have hbw3 : Below W.heap.size W w3 := HBW.out.trans (hb3.mono hww)
      have HB3 := Lib.hid hbw3
      have HG3 := Lib.hid hg3
      have hbk : ∀ k, (Value.slice A7 bl c7).ownBlock = some k → k < g := fun k hk => Nat.lt_of_lt_of_le (HOW.out.lt k hk).2 hwr2
      have HBK := Lib.hid hbk
      clear hb3 hg hg3 hbw3 hbk HOW HB2 HBW HTS
      rcases Int.lt_or_le ((n : Int) - (bl : Int)) 32 with h32 | h32
      · have hx : (n : Int) - (bl : Int) < 32 := by omega
        have hX1 : bl + (n - bl) ≤ n := by omega
        have hX2 : (n - bl) ≤ 32 := by omega
        have hX3 : 1 ≤ (n - bl) := by omega
        have hX4 : n ≤ bl + (n - bl) ∨ (n - bl) = 32 := by omega
        have hsv : Sv w3 (g + 1) (some ⟨g, 0, none⟩) ((out.take (n - bl)).map cell8) := by
          rw [List.map_take]
          refine Sv.take ?_ (n - bl)
          intro _
          refine ⟨g, 0, rfl, by omega, fun i v hv => ?_⟩
          rw [Nat.zero_add, HG3.out.cell, bRow, List.getElem?_toArray]
          exact hv
        have HSV := Lib.hid hsv
        have HXL : Deep (((out.take (n - bl)).map cell8).length = (n - bl)) := ⟨by rw [List.length_map, List.length_take, HOL.out]; omega⟩
        have HEX : Deep (((outK ks sec info i).take n).map cell8 ++ (out.take (n - bl)).map cell8 = ((outK ks sec info (i + 1)).take n).map cell8) := ⟨by
          have e := HBL.out
          rw [exp_step ks sec info n i hlt, List.map_append, HOUT.out]
          congr 3
          omega⟩
        have hg7w : g7 ≤ w3.heap.size := by have := HG7.out; have := HB3.out.size; omega
        clear hsv
        go_wp2_with (at_builtin; refine wpList_append_sv _ rfl (.tmp 33) (.tmp 42) _ rfl g7 5 i0 _ 1 Tryd.underlying28 hi0 hz0 hz1 hz2 rfl (.slice A7 bl c7) bl _ rfl HO3.out (g + 1) (some ⟨g, 0, none⟩) (n - bl) 32 ((out.take (n - bl)).map cell8) rfl HSV.out HXL.out (cell8_one _) (by unfold maxLen; omega) (by omega) hg7w ?_; intro v5 w5 hown5 hg5 hat5; have HO5 := Lib.hid hown5; have HG5 := Lib.hid hg5; clear hown5 hg5 hat5)
        have HO6 := HO5.out
        rw [HEX.out] at HO6
        obtain ⟨A5, c5, rfl, h5a, h5b⟩ := own_form HO6
        have hW5 : Wh w5 g 22 (bRow out) := HG3.out.grown HG5.out (by intro e; have := HBK.out g e.symm; omega)
        have hB5 : Below W.heap.size W w5 := HB3.out.grown HG5.out HB3.out.size (fun q hq => by have h1 := (HO3.out.lt q hq).1; have h2 := HG7.out; omega)
        have hSl : Sl w5 w5.heap.size (some ⟨g, 0, none⟩) (tK ks sec info (i + 1)) := by rw [← HOUT.out]; exact sl_of_wh hW5
        have e := HBL.out
        exact ⟨⟨i + 1, bl + (n - bl), 32, 32, some ⟨g, 0, none⟩, ((i : Int) + 1 + 1) % 256, by omega, by omega, by omega, by omega, by omega, rfl, ⟨fun h => by omega⟩, Lib.hid HO6, rfl, Nat.le_refl _, Nat.le_refl _, ⟨tK_len _ _ _ _⟩, Lib.hid hSl, Lib.hid hB5⟩, by simp only [lenOf]; omega⟩
      · have hx : ¬ ((n : Int) - (bl : Int) < 32) := by omega
        have hX1 : bl + 32 ≤ n := by omega
        have hX2 : 32 ≤ 32 := by omega
        have hX3 : 1 ≤ 32 := by omega
        have hX4 : n ≤ bl + 32 ∨ 32 = 32 := by omega
        have hsv : Sv w3 (g + 1) (some ⟨g, 0, none⟩) ((out.take 32).map cell8) := by
          rw [List.map_take]
          refine Sv.take ?_ 32
          intro _
          refine ⟨g, 0, rfl, by omega, fun i v hv => ?_⟩
          rw [Nat.zero_add, HG3.out.cell, bRow, List.getElem?_toArray]
          exact hv
        have HSV := Lib.hid hsv
        have HXL : Deep (((out.take 32).map cell8).length = 32) := ⟨by rw [List.length_map, List.length_take, HOL.out]; omega⟩
        have HEX : Deep (((outK ks sec info i).take n).map cell8 ++ (out.take 32).map cell8 = ((outK ks sec info (i + 1)).take n).map cell8) := ⟨by
          have e := HBL.out
          rw [exp_step ks sec info n i hlt, List.map_append, HOUT.out]
          congr 3
          omega⟩
        have hg7w : g7 ≤ w3.heap.size := by have := HG7.out; have := HB3.out.size; omega
        clear hsv
        go_wp2_with (at_builtin; refine wpList_append_sv _ rfl (.tmp 33) (.tmp 42) _ rfl g7 5 i0 _ 1 Tryd.underlying28 hi0 hz0 hz1 hz2 rfl (.slice A7 bl c7) bl _ rfl HO3.out (g + 1) (some ⟨g, 0, none⟩) 32 32 ((out.take 32).map cell8) rfl HSV.out HXL.out (cell8_one _) (by unfold maxLen; omega) (by omega) hg7w ?_; intro v5 w5 hown5 hg5 hat5; have HO5 := Lib.hid hown5; have HG5 := Lib.hid hg5; clear hown5 hg5 hat5)
        have HO6 := HO5.out
        rw [HEX.out] at HO6
        obtain ⟨A5, c5, rfl, h5a, h5b⟩ := own_form HO6
        have hW5 : Wh w5 g 22 (bRow out) := HG3.out.grown HG5.out (by intro e; have := HBK.out g e.symm; omega)
        have hB5 : Below W.heap.size W w5 := HB3.out.grown HG5.out HB3.out.size (fun q hq => by have h1 := (HO3.out.lt q hq).1; have h2 := HG7.out; omega)
        have hSl : Sl w5 w5.heap.size (some ⟨g, 0, none⟩) (tK ks sec info (i + 1)) := by rw [← HOUT.out]; exact sl_of_wh hW5
        have e := HBL.out
        exact ⟨⟨i + 1, bl + 32, 32, 32, some ⟨g, 0, none⟩, ((i : Int) + 1 + 1) % 256, by omega, by omega, by omega, by omega, by omega, rfl, ⟨fun h => by omega⟩, Lib.hid HO6, rfl, Nat.le_refl _, Nat.le_refl _, ⟨tK_len _ _ _ _⟩, Lib.hid hSl, Lib.hid hB5⟩, by simp only [lenOf]; omega⟩
    · have t1 : decide (bl < n) = false := decide_eq_false (by omega)
      have hbln : bl = n := by omega
      have HE : Deep ((outK ks sec info i).take n = expK ks sec info n) := ⟨outK_take _ _ _ _ _ (by omega)⟩
      have HO6 := HOW.out
      rw [HE.out] at HO6
      have HO7 := Lib.hid HO6
      have HBN := Deep.mk hbln
      have hexl : (expK ks sec info n).length = n := expK_len _ _ _ _
      have HEL := Deep.mk hexl
      have HBF := Lib.hid (HW0.out.trans (HBW.out.mono hwW))
      have hg7w : w.heap.size ≤ g7 := by have := HG7.out; omega
      clear hbl1 hbl2 hbl3 hlt hbln HCI HTL HTS HBW HOW HO6 hexl HE
      go_wp2
      go_ret
      refine ⟨A7, c7, ?_, ?_, h7b, ?_, HBF.out⟩
      · rw [HEL.out, HBN.out]
        rfl
      · rw [HEL.out, ← HBN.out]; exact h7a
      · rw [HEL.out]
        have h := HO7.out
        rw [HBN.out] at h
        exact own_le h hg7w

theorem expand_any (ks : List W32) (sec info : List UInt8) (A : Option Addr) (m c : Nat) (n : Int) (w : World) (hks : ks.length = 64) (hK : KT w ks) (hKb : 0 < w.heap.size) (hsec : sec.length = 32)
    (hl : info.length = m) (hlc : m ≤ c) (hcm : c ≤ maxLen) (hs : Sl w w.heap.size A info) (hm : m ≤ 1000000) :
    Calls Tryd.prog 71 #[.agg (bRow sec), .slice A m c, .int .i64 n] w (GaveB w (expI ks sec info n)) := by
  by_cases h : n < 1 ∨ 8160 < n
  · rw [expI, if_pos h]
    exact expand_none sec _ n w hsec h
  · rw [expI, if_neg h]
    obtain ⟨k, rfl⟩ := Int.eq_ofNat_of_zero_le (by omega : 0 ≤ n)
    rw [Int.toNat_natCast]
    exact expand_in ks sec info A m c k w hks hK hKb hsec hl hlc hcm hs hm (by omega) (by omega)
end Go.Proofs.YtbnnjkjmadnjkaaDoor
