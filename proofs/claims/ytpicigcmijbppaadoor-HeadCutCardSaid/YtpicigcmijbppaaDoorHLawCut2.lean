/-
  The walk through the statement HeadCut where it asks: a long packet that is cut.
-/
import Derived.Test.YtpicigcmijbppaaDoorHLawCut
namespace Go.Proofs.YtpicigcmijbppaaDoor
open Go.RowKit
set_option linter.unusedVariables false

set_option maxRecDepth 10000 in
set_option maxHeartbeats 1600000 in
theorem hcut_main (sp k pn : Nat) (dst src tok load : List UInt8) (ph : Bool) (cut : Int) (A1 : Option Addr) (c1 : Nat) (A2 : Option Addr) (c2 : Nat) (A3 : Option Addr) (c3 : Nat) (A4 : Option Addr) (c4 : Nat) (w : World) (hT : Tab w)
    (hmay : mayB sp dst.length src.length tok.length ph (pn : Int) (k : Int) = true) (hsp : sp = 0 ∨ sp = 1) (hl : load.length ≤ 2000) (ht : tok.length ≤ 3000) (h20 : 20 ≤ k + load.length)
    (h1 : Sl w w.heap.size A1 dst) (h2 : Sl w w.heap.size A2 src) (h3 : Sl w w.heap.size A3 tok) (h4 : Sl w w.heap.size A4 load) :
    Calls Tryd.prog 5 #[.agg (headOf sp dst src tok ph (pn : Int) (k : Int) A1 c1 A2 c2 A3 c3), .slice A4 load.length c4, .int .i64 cut] w fun e w' => e = .returned (.bool true) ∧ Below w.heap.size w w' := by
  obtain ⟨i0, hi0, hz0, hz1, hz2⟩ := info_parts info8
  have hz : (w.alloc (.cells (headOf sp dst src tok ph (pn : Int) (k : Int) A1 c1 A2 c2 A3 c3) 25)).heap.size = w.heap.size + 1 := by simp
  have hb0 : Below w.heap.size w (w.alloc (.cells (headOf sp dst src tok ph (pn : Int) (k : Int) A1 c1 A2 c2 A3 c3) 25)) := (Below.refl _ _).alloc (Nat.le_refl _) _
  have hW0 : Wh (w.alloc (.cells (headOf sp dst src tok ph (pn : Int) (k : Int) A1 c1 A2 c2 A3 c3) 25)) w.heap.size 25 (headOf sp dst src tok ph (pn : Int) (k : Int) A1 c1 A2 c2 A3 c3) := Wh.new _ _ _
  have HM := Lib.hid (fun w => hmay_any sp dst.length src.length tok.length ph A1 c1 A2 c2 A3 c3 (pn : Int) (k : Int) w)
  have HK := Lib.hid (known_any _ (hT.below hb0 hT.lt))
  have HB0 := Lib.hid hb0
  have HW0 := Lib.hid hW0
  have HT := Lib.hid hT
  have H1 := Lib.hid h1
  have H2 := Lib.hid h2
  have H3 := Lib.hid h3
  have H4 := Lib.hid h4
  obtain ⟨f1, f2, f3, f4, f5, f6, f7, f8, f9⟩ := may_facts hmay
  have hph : ph = false := f9 (by omega)
  have htk : sp = 1 → tok = [] := fun h => List.eq_nil_of_length_eq_zero (f8 h)
  have hq : ((sp : Int) == 2) = false := by rw [beq_eq_false_iff_ne]; omega
  subst hph
  have HMAY := Lib.hid hmay
  have hx := first_long (sp := sp) (k := k) hsp (by omega)
  have HHB : Hid (headB sp k dst src tok false pn load.length = UInt8.ofNat (firstB sp k false) :: (longB sp dst src tok (k + load.length) ++ be pn k)) := by
    show _ = _
    unfold headB
    rw [if_neg (by omega)]
  have HNONE : Hid (∀ c, c < (headB sp k dst src tok false pn load.length ++ load).length → splitT ((headB sp k dst src tok false pn load.length ++ load).take c) 8 = none) := fun c hc => by
    refine cut_none (x := UInt8.ofNat (firstB sp k false)) (sp := sp) (m := k + load.length) (dst := dst) (src := src) (tok := tok) (r := be pn k ++ load) 8 ?_ hsp (by rw [hx]; omega) htk (by omega) (by omega) (by omega) (by omega) (by rw [List.length_append, be_length]) hc
    rw [HHB.out]
    simp
  have HLEN : Hid ((headB sp k dst src tok false pn load.length).length ≤ 4000) := by
    show _ ≤ _
    rw [HHB.out]
    have e1 := szN_le tok.length
    have e2 := szN_le (k + load.length)
    unfold longB
    split <;> simp [enc_length, be_length] <;> omega
  rw [hmay] at HM
  have HPUT := Lib.hid (fun (w' : World) (h : Below w.heap.size w w') => hput_ok sp k load.length pn dst src tok false A1 c1 A2 c2 A3 c3 w' HMAY.out (by omega) ((H1.out.below h).keep h.size (fun _ _ => rfl)) ((H2.out.below h).keep h.size (fun _ _ => rfl)) ((H3.out.below h).keep h.size (fun _ _ => rfl)) ht (HT.out.below h HT.out.lt) f6 (by omega) f1 f2)
  generalize headB sp k dst src tok false pn load.length = HD at *
  clear hb0 hW0 hT hmay h1 h2 h3 h4 f9 f8 f7 hx f6
  unfold headOf headC
  go_enter Tryd.func5, Tryd.ntmps5
  go_wp2_with fail
  refine HK.out.mono ?_
  rintro e w1 ⟨rfl, hb1⟩
  have HB1 := Lib.hid (HB0.out.trans (hb1.mono (by omega)))
  have hW1 := HW0.out.below hb1 (by omega)
  have e0 := hW1.cell 0
  have e1 := hW1.cell 1
  have e2 := hW1.cell 2
  have e3 := hW1.cell 3
  have e4 := hW1.cell 4
  have e5 := hW1.cell 5
  have e6 := hW1.cell 6
  simp only [headC, List.getElem?_toArray, List.getElem?_cons_zero, List.getElem?_cons_succ] at e0 e1 e2 e3 e4 e5 e6
  have HW1 := Lib.hid hW1
  clear hb1 hW1 HK HB0 HW0
  go_wp2_with fail
  refine (HM.out _).mono ?_
  rintro e w2 ⟨rfl, hb2⟩
  have HB2 := Lib.hid (HB1.out.trans (hb2.mono HB1.out.size))
  have hW2 := HW1.out.below hb2 HW1.out.lt
  clear e0 e1 e2 e3 e4 e5 e6
  have e0 := hW2.cell 0
  have e1 := hW2.cell 1
  have e2 := hW2.cell 2
  have e3 := hW2.cell 3
  have e4 := hW2.cell 4
  have e5 := hW2.cell 5
  have e6 := hW2.cell 6
  simp only [headC, List.getElem?_toArray, List.getElem?_cons_zero, List.getElem?_cons_succ] at e0 e1 e2 e3 e4 e5 e6
  clear hb2 hW2 HB1 HW1
  have HP2 := Lib.hid (HPUT.out w2 HB2.out)
  clear HPUT HM
  go_wp2_with fail
  refine HP2.out.mono ?_
  rintro e w3 ⟨A5, c5, rfl, hc5, hm5, hown5, hb3⟩
  have HB3 := Lib.hid (HB2.out.trans (hb3.mono HB2.out.size))
  have hs2 := HB2.out.size
  have hs3 := hb3.size
  clear e0 e1 e2 e3 e4 e5 e6 HP2 hb3
  have hlen := HLEN.out
  go_upto_region 9 with (at_builtin; refine wpList_append_sv _ rfl _ _ _ rfl w2.heap.size 5 i0 _ 1 Tryd.underlying22 hi0 hz0 hz1 hz2 rfl _ _ _ rfl hown5 w.heap.size _ load.length _ (load.map cell8) rfl (H4.out.below HB3.out) (by simp) (cell8_one load) (by unfold maxLen; omega) (by omega) hs3 ?_; intro v6 w6 hown6 hg6 _)
  have HB6 := Lib.hid (HB3.out.grown hg6 HB3.out.size (fun q hq => Nat.le_trans hs2 (hown5.lt q hq).1))
  rw [← List.map_append] at hown6
  rw [show HD.length + load.length = (HD ++ load).length by simp] at hown6
  have hlb : (HD ++ load).length ≤ 6000 := by simp; omega
  generalize HD ++ load = bb at *
  obtain ⟨A6, c6, rfl, hc6, hm6⟩ := own_form hown6
  have HS6 : Hid (Sl w6 w6.heap.size A6 bb) := Sv.of_own hown6
  clear hown6 hown5 hg6 HB3 HB2
  by_cases hneg : cut < 0
  · go_wp2
    go_ret
    exact ⟨rfl, HB6.out⟩
  · by_cases hge : (bb.length : Int) ≤ cut
    · go_wp2
      go_ret
      exact ⟨rfl, HB6.out⟩
    · obtain ⟨c, rfl⟩ : ∃ c : Nat, cut = (c : Int) := ⟨cut.toNat, by omega⟩
      have hcb : c < bb.length := by omega
      have hdge : decide ((bb.length : Int) ≤ (c : Int)) = false := decide_eq_false (by omega)
      have HE := Lib.hid (split_err (HNONE.out c hcb) (by omega) A6 c c6 w6 (by rw [List.length_take]; omega) (by show Sv _ _ _ _; rw [List.map_take]; exact HS6.out.take c) (by omega) hm6 (by omega))
      clear HNONE
      unfold maxLen at hm6
      go_wp2_with (go_at_call 12; refine HE.out.mono ?_; rintro e w7 ⟨rfl, hb7⟩)
      go_ret
      exact ⟨rfl, (HB6.out.trans (hb7.mono HB6.out.size)).alloc (Nat.le_trans HB6.out.size hb7.size) _⟩

theorem hcut_any (sp pn : Nat) (dst src tok load : List UInt8) (ph : Bool) (pnb cut : Int) (A1 : Option Addr) (c1 : Nat) (A2 : Option Addr) (c2 : Nat) (A3 : Option Addr) (c3 : Nat) (A4 : Option Addr) (c4 : Nat) (w : World) (hT : Tab w)
    (h1 : Sl w w.heap.size A1 dst) (h2 : Sl w w.heap.size A2 src) (h3 : Sl w w.heap.size A3 tok) (h4 : Sl w w.heap.size A4 load) :
    Calls Tryd.prog 5 #[.agg (headOf sp dst src tok ph (pn : Int) pnb A1 c1 A2 c2 A3 c3), .slice A4 load.length c4, .int .i64 cut] w fun e w' => e = .returned (.bool true) ∧ Below w.heap.size w w' := by
  cases hm : mayB sp dst.length src.length tok.length ph (pn : Int) pnb
  · exact hcut_free sp dst src tok load ph (pn : Int) pnb cut A1 c1 A2 c2 A3 c3 A4 c4 w hT (.inl hm)
  · obtain ⟨f1, f2, f3, f4, f5, f6, _⟩ := may_facts hm
    by_cases hs : sp = 2
    · exact hcut_free sp dst src tok load ph (pn : Int) pnb cut A1 c1 A2 c2 A3 c3 A4 c4 w hT (.inr ⟨hm, .inl hs⟩)
    · by_cases hl : load.length ≤ 2000
      · by_cases ht : tok.length ≤ 3000
        · by_cases h20 : pnb + load.length < 20
          · exact hcut_free sp dst src tok load ph (pn : Int) pnb cut A1 c1 A2 c2 A3 c3 A4 c4 w hT (.inr ⟨hm, .inr ⟨hs, .inr ⟨hl, .inr ⟨ht, h20⟩⟩⟩⟩)
          · obtain ⟨k, rfl⟩ : ∃ k : Nat, pnb = (k : Int) := ⟨pnb.toNat, by omega⟩
            exact hcut_main sp k pn dst src tok load ph cut A1 c1 A2 c2 A3 c3 A4 c4 w hT hm (by omega) hl ht (by omega) h1 h2 h3 h4
        · exact hcut_free sp dst src tok load ph (pn : Int) pnb cut A1 c1 A2 c2 A3 c3 A4 c4 w hT (.inr ⟨hm, .inr ⟨hs, .inr ⟨hl, .inl (by omega)⟩⟩⟩)
      · exact hcut_free sp dst src tok load ph (pn : Int) pnb cut A1 c1 A2 c2 A3 c3 A4 c4 w hT (.inr ⟨hm, .inr ⟨hs, .inl (by omega)⟩⟩)

end Go.Proofs.YtpicigcmijbppaaDoor
