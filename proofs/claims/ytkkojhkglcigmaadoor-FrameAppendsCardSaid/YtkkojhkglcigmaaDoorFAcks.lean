/-
  The walk through the reader's frame, class 'acks': made by tools/gen_frame2.py.
-/
import Derived.Test.YtkkojhkglcigmaaDoorFSpec
import Derived.StillTailTactics
import Derived.Laws.CopyOwn
namespace Go.Proofs.YtkkojhkglcigmaaDoor
open Go.RowKit
set_option linter.unusedVariables false

set_option maxRecDepth 100000 in
set_option maxHeartbeats 8000000 in
theorem frame_acks (x : UInt8) (l : List UInt8) (w : World) (B rb : Nat) (hr : Rd w B rb (x :: l)) (hT : PT w) (hgB : 0 < B) (hlen : l.length ≤ 16777216) (hs : ¬ x.toNat / 8 = 1)
    (h1 : bt (partsN x.toNat) 1 = true) (hm : bt (partsN x.toNat) 32 = false) (ha : bt (partsN x.toNat) 128 = true) (hd : bt (partsN x.toNat) 1024 = false) (hc : bt (partsN x.toNat) 2048 = false) :
    Calls Tryd.prog 34 #[.pointer (some ⟨rb, 0, none⟩)] w (FrameGave w B rb (frame_ (x :: l))) := by
  have hxl := x.toNat_lt
  have hrlt := hr.lt
  have hBr : B ≤ rb := by obtain ⟨_, _, _, _, _, _, _, _, h⟩ := hr; exact h
  have hr0 : Rd (w.alloc (.cells (zRow 0) 32)) B rb (x :: l) := hr.grown (World.grownBy_alloc w _ none) (by simp) (by simp)
  have HR0 := Lib.hid hr0
  have HW0 := Lib.hid (Wh.new w 32 (zRow 0))
  have HG0 := Lib.hid (World.grownBy_alloc w (.cells (zRow 0) 32) (some rb))
  have hb1 : (bits .and .u16 (partsN x.toNat : Nat) 1 != 0) = true := h1
  have hb2 : (bits .and .u16 (partsN x.toNat : Nat) 2 != 0) = bt (partsN x.toNat) 2 := rfl
  have hb4 : (bits .and .u16 (partsN x.toNat : Nat) 4 != 0) = bt (partsN x.toNat) 4 := rfl
  have hb8 : (bits .and .u16 (partsN x.toNat : Nat) 8 != 0) = bt (partsN x.toNat) 8 := rfl
  have hb16 : (bits .and .u16 (partsN x.toNat : Nat) 16 != 0) = bt (partsN x.toNat) 16 := rfl
  have hb32 : (bits .and .u16 (partsN x.toNat : Nat) 32 != 0) = false := hm
  have hb128 : (bits .and .u16 (partsN x.toNat : Nat) 128 != 0) = true := ha
  have hb256 : (bits .and .u16 (partsN x.toNat : Nat) 256 != 0) = bt (partsN x.toNat) 256 := rfl
  have hb1024 : (bits .and .u16 (partsN x.toNat : Nat) 1024 != 0) = false := hd
  have hb2048 : (bits .and .u16 (partsN x.toNat : Nat) 2048 != 0) = false := hc
  have HQ : Hid (frame_ (x :: l) = sM false (bt (partsN x.toNat) 2) (bt (partsN x.toNat) 4) (bt (partsN x.toNat) 8) (bt (partsN x.toNat) 16) true (bt (partsN x.toNat) 256) (bt (partsN x.toNat) 512) false false (zP x.toNat) l) := by
    show frame_ (x :: l) = _
    unfold frame_ sP
    simp only [hs, h1, hm, ha, hd, hc, if_true, if_false]
  have HIS := Lib.hid (isStream_any x.toNat)
  have HPO := Lib.hid (partsOf_any x.toNat)
  have HPT := Lib.hid hT
  
  have HL512 := Lib.hid (fun kind l w B rb h => length_any kind (partsN x.toNat) l w B rb h)
  have HS := Lib.hid hs
  
  have hzr : (#[.int .u64 0, .int .u64 0, .int .u64 0, .int .u64 0, .int .u64 0, .int .u64 0, .bool false, .slice none 0 0, .slice none 0 0, .int .u8 0, .int .u8 0, .int .u8 0, .int .u8 0, .int .u8 0, .int .u8 0, .int .u8 0, .int .u8 0, .int .u8 0, .int .u8 0, .int .u8 0, .int .u8 0, .int .u8 0, .int .u8 0, .int .u8 0, .int .u8 0, .slice none 0 0, .int .u64 0, .int .u64 0, .int .u64 0, .int .u64 0] : Array Value) = zRow 0 := rfl
  generalize partsN x.toNat = p at *
  generalize bt p 2 = b2 at *
  generalize bt p 4 = b4 at *
  generalize bt p 8 = b8 at *
  generalize bt p 16 = b16 at *
  generalize bt p 256 = b256 at *
  generalize bt p 512 = b512 at *
  generalize frame_ (x :: l) = q at *
  clear hr0 h1 hm ha hd hc hT hr hs
  go_enter Tryd.func34, Tryd.ntmps34
  go_wp2_with fail
  refine (octet_cons x l _ B rb HR0.out).mono ?_
  rintro e w1 ⟨rfl, hr1, hg1⟩
  have hws : w.heap.size < w1.heap.size := by have := hg1.size; simp at this; omega
  have hFS0 : FS w (w1.alloc (.cells ((zRow 0).setIfInBounds 0 (.int .u64 (x.toNat : Int))) 32)) B rb w1.heap.size (zP x.toNat) zA l :=
    ⟨Wh.new w1 _ _, hr1.grown (World.grownBy_alloc w1 _ none) (by simp) (by simp), grown_trans (grown_trans HG0.out hg1) (World.grownBy_alloc w1 _ _), (HW0.out.grown hg1 (by simp; omega)).alloc _, hws, hrlt, hBr, zFA _ _ _ hxl⟩
  go_wp2_with (refine wpList_store_row rfl 32 (.tmp 4) (.tmp 11) rfl w1.heap.size ((zRow 0).setIfInBounds 0 (.int .u64 (x.toNat : Int))) rfl rfl _ _ (heap_alloc_new w1 (.cells (zRow 0) 32)) info_frame rfl (rowF_one (zP x.toNat) zA) ?_; rw [World.setRow_alloc_new])
  generalize w1.alloc (.cells ((zRow 0).setIfInBounds 0 (.int .u64 (x.toNat : Int))) 32) = w2 at *
  generalize w1.heap.size = g at *
  have hPT : PT w2 := PT.grown HPT.out hFS0.gr hgB hBr
  have HPT2 := Lib.hid hPT
  clear hPT hr1 hg1 hws
  refine (HPO.out w2 HPT2.out).mono ?_
  rintro e w' ⟨rfl, rfl⟩
  go_wp2_with fail
  refine (HIS.out w2 hxl).mono ?_
  rintro e w' ⟨rfl, rfl⟩
  rw [decide_eq_false HS.out]

  go_wp2_with fail
  refine (need_yes _).mono ?_
  rintro e w' ⟨rfl, rfl⟩
  go_wp2_with fail

  have HQ' : Hid (q = s0 b2 b4 b8 b16 true b256 b512 false false (zP x.toNat) l) := by show q = _; rw [HQ.out]; rfl
  clear HQ
  have HQ := Lib.hid HQ'.out
  clear HQ'
  have hll0 : l.length ≤ 16777216 := hlen
  rcases hN : numIf_ b2 l with _ | ⟨n1, l1⟩
  · have hq : q = none := by rw [HQ.out]; unfold s0; rw [hN]
    subst hq
    have HN := Lib.hid (numberIf_any b2 l w2 B rb hFS0.rd)
    rw [hN] at HN
    clear hN
    refine HN.out.mono ?_
    rintro e w' ⟨rfl, hg⟩
    go_wp2
    exact ⟨rfl, rfl, grown_trans hFS0.gr hg⟩
  have HQ1 : Hid (q = s1 b4 b8 b16 true b256 b512 false false { (zP x.toNat) with id := n1 } l1) := by show q = _; rw [HQ.out]; unfold s0; rw [hN]
  have hll1 : l1.length ≤ 16777216 := by have := numIf_le hN; omega
  have hnl1 := (numIf_le hN).2
  have HN := Lib.hid (numberIf_any b2 l w2 B rb hFS0.rd)
  rw [hN] at HN
  clear hN HQ
  have HQ := Lib.hid HQ1.out
  clear HQ1
  refine HN.out.mono ?_
  rintro e w' ⟨rfl, hr', hg'⟩
  have hFS := hFS0.step hg' hr'
  have hz := (hFS.draw 1).1
  have hcl : w'.cell? ⟨g, 1, none⟩ = _ := (hFS.draw 1).2.trans (rfl)
  go_wp2_with fail
  have hFS1 := hFS.putId n1 hnl1
  generalize w'.setCell ⟨g, 1, none⟩ (.int .u64 (n1 : Int)) = w3 at *
  clear HN hr' hg' hFS hz hcl hFS0
  obtain ⟨f1, hf1⟩ : ∃ f', f' = { (zP x.toNat) with id := n1 } := ⟨_, rfl⟩
  rw [← hf1] at hFS1 HQ
  have htk1 : f1.token.length = 16 := by rw [hf1]; exact rfl
  have HKD1 : Hid (f1.kind = x.toNat) := by show _ = _; rw [hf1]; exact rfl
  clear hf1
  rcases hN : numIf_ b4 l1 with _ | ⟨n2, l2⟩
  · have hq : q = none := by rw [HQ.out]; unfold s1; rw [hN]
    subst hq
    have HN := Lib.hid (numberIf_any b4 l1 w3 B rb hFS1.rd)
    rw [hN] at HN
    clear hN
    refine HN.out.mono ?_
    rintro e w' ⟨rfl, hg⟩
    go_wp2
    exact ⟨rfl, rfl, grown_trans hFS1.gr hg⟩
  have HQ2 : Hid (q = s2 b8 b16 true b256 b512 false false { f1 with off := n2 } l2) := by show q = _; rw [HQ.out]; unfold s1; rw [hN]
  have hll2 : l2.length ≤ 16777216 := by have := numIf_le hN; omega
  have hnl2 := (numIf_le hN).2
  have HN := Lib.hid (numberIf_any b4 l1 w3 B rb hFS1.rd)
  rw [hN] at HN
  clear hN HQ
  have HQ := Lib.hid HQ2.out
  clear HQ2
  refine HN.out.mono ?_
  rintro e w' ⟨rfl, hr', hg'⟩
  have hFS := hFS1.step hg' hr'
  have hz := (hFS.draw 2).1
  have hcl : w'.cell? ⟨g, 2, none⟩ = _ := (hFS.draw 2).2.trans (rfl)
  go_wp2_with fail
  have hFS2 := hFS.putOff n2 hnl2
  generalize w'.setCell ⟨g, 2, none⟩ (.int .u64 (n2 : Int)) = w4 at *
  clear HN hr' hg' hFS hz hcl hFS1
  obtain ⟨f2, hf2⟩ : ∃ f', f' = { f1 with off := n2 } := ⟨_, rfl⟩
  rw [← hf2] at hFS2 HQ
  have htk2 : f2.token.length = 16 := by rw [hf2]; exact htk1
  have HKD2 : Hid (f2.kind = x.toNat) := by show _ = _; rw [hf2]; exact HKD1.out
  clear hf2
  rcases hN : numIf_ b8 l2 with _ | ⟨n3, l3⟩
  · have hq : q = none := by rw [HQ.out]; unfold s2; rw [hN]
    subst hq
    have HN := Lib.hid (numberIf_any b8 l2 w4 B rb hFS2.rd)
    rw [hN] at HN
    clear hN
    refine HN.out.mono ?_
    rintro e w' ⟨rfl, hg⟩
    go_wp2
    exact ⟨rfl, rfl, grown_trans hFS2.gr hg⟩
  have HQ3 : Hid (q = s3 b16 true b256 b512 false false { f2 with code := n3 } l3) := by show q = _; rw [HQ.out]; unfold s2; rw [hN]
  have hll3 : l3.length ≤ 16777216 := by have := numIf_le hN; omega
  have hnl3 := (numIf_le hN).2
  have HN := Lib.hid (numberIf_any b8 l2 w4 B rb hFS2.rd)
  rw [hN] at HN
  clear hN HQ
  have HQ := Lib.hid HQ3.out
  clear HQ3
  refine HN.out.mono ?_
  rintro e w' ⟨rfl, hr', hg'⟩
  have hFS := hFS2.step hg' hr'
  have hz := (hFS.draw 4).1
  have hcl : w'.cell? ⟨g, 4, none⟩ = _ := (hFS.draw 4).2.trans (rfl)
  go_wp2_with fail
  have hFS3 := hFS.putCode n3 hnl3
  generalize w'.setCell ⟨g, 4, none⟩ (.int .u64 (n3 : Int)) = w5 at *
  clear HN hr' hg' hFS hz hcl hFS2
  obtain ⟨f3, hf3⟩ : ∃ f', f' = { f2 with code := n3 } := ⟨_, rfl⟩
  rw [← hf3] at hFS3 HQ
  have htk3 : f3.token.length = 16 := by rw [hf3]; exact htk2
  have HKD3 : Hid (f3.kind = x.toNat) := by show _ = _; rw [hf3]; exact HKD2.out
  clear hf3
  rcases hN : numIf_ b16 l3 with _ | ⟨n4, l4⟩
  · have hq : q = none := by rw [HQ.out]; unfold s3; rw [hN]
    subst hq
    have HN := Lib.hid (numberIf_any b16 l3 w5 B rb hFS3.rd)
    rw [hN] at HN
    clear hN
    refine HN.out.mono ?_
    rintro e w' ⟨rfl, hg⟩
    go_wp2
    exact ⟨rfl, rfl, grown_trans hFS3.gr hg⟩
  have HQ4 : Hid (q = s4 true b256 b512 false false { f3 with max := n4 } l4) := by show q = _; rw [HQ.out]; unfold s3; rw [hN]
  have hll4 : l4.length ≤ 16777216 := by have := numIf_le hN; omega
  have hnl4 := (numIf_le hN).2
  have HN := Lib.hid (numberIf_any b16 l3 w5 B rb hFS3.rd)
  rw [hN] at HN
  clear hN HQ
  have HQ := Lib.hid HQ4.out
  clear HQ4
  refine HN.out.mono ?_
  rintro e w' ⟨rfl, hr', hg'⟩
  have hFS := hFS3.step hg' hr'
  have hz := (hFS.draw 3).1
  have hcl : w'.cell? ⟨g, 3, none⟩ = _ := (hFS.draw 3).2.trans (rfl)
  go_wp2_with fail
  have hFS4 := hFS.putMax n4 hnl4
  generalize w'.setCell ⟨g, 3, none⟩ (.int .u64 (n4 : Int)) = w6 at *
  clear HN hr' hg' hFS hz hcl hFS3
  obtain ⟨f4, hf4⟩ : ∃ f', f' = { f3 with max := n4 } := ⟨_, rfl⟩
  rw [← hf4] at hFS4 HQ
  have htk4 : f4.token.length = 16 := by rw [hf4]; exact htk3
  have HKD4 : Hid (f4.kind = x.toNat) := by show _ = _; rw [hf4]; exact HKD3.out
  clear hf4
  have hgsz := hFS4.wh.lt
  rcases hN : acks_ l4 with _ | ⟨⟨ra, na⟩, la⟩
  · have hq : q = none := by rw [HQ.out]; unfold s4; simp only [if_true]; rw [hN]
    subst hq
    have HN := Lib.hid (acks_any l4 w6 B rb hFS4.rd (by omega))
    rw [hN] at HN
    clear hN
    refine HN.out.mono ?_
    rintro e w' ⟨rfl, hg⟩
    go_wp2
    exact ⟨rfl, rfl, grown_trans hFS4.gr hg⟩
  have HQ' : Hid (q = s5 b256 b512 false false { f4 with acks := ra, delay := na } la) := by show q = _; rw [HQ.out]; unfold s4; simp only [if_true]; rw [hN]
  have hna := acks_le hN
  have hlla : la.length ≤ 16777216 := by omega
  have HN := Lib.hid (acks_any l4 w6 B rb hFS4.rd (by omega))
  rw [hN] at HN
  clear hN HQ
  have HQ := Lib.hid HQ'.out
  clear HQ'
  refine HN.out.mono ?_
  rintro e w' ⟨A', c', rfl, hrc, hcm, hsr, hfr, hr', hg'⟩
  have hFS := hFS4.step hg' hr'
  have hz := (hFS.draw 25).1
  have hz2 := (hFS.draw 26).1
  have hcl : w'.cell? ⟨g, 25, none⟩ = _ := (hFS.draw 25).2.trans (by have := (rowF_is zA htk4).acks; simpa using this)
  have hcl2 : w'.cell? ⟨g, 26, none⟩ = _ := (hFS.draw 26).2.trans (by have := (rowF_is zA htk4).delay; simpa using this)
  go_wp2_with fail
  have hFSa := (hFS.putAcks ra A' c' hsr (fun p hp => by have := hfr p hp; omega) hrc hcm (by omega) hna.1).putDelay na hna.2.2.1
  generalize (w'.setCell ⟨g, 25, none⟩ (.slice A' ra.length c')).setCell ⟨g, 26, none⟩ (.int .u64 (na : Int)) = wa at *
  clear HN hr' hg' hFS hz hcl hz2 hcl2 hFS4 hsr hfr hgsz hna
  obtain ⟨aa, haa⟩ : ∃ a', a' = ({ zA with aA := A', ac := c' } : SA) := ⟨_, rfl⟩
  rw [← haa] at hFSa
  clear haa hrc hcm
  obtain ⟨fa, hfa⟩ : ∃ f', f' = { f4 with acks := ra, delay := na } := ⟨_, rfl⟩
  rw [← hfa] at HQ
  have hFSb : FS w wa B rb g fa aa la := by rw [hfa]; exact hFSa
  have htka : fa.token.length = 16 := by rw [hfa]; exact htk4
  have HKDa : Hid (fa.kind = x.toNat) := by show _ = _; rw [hfa]; exact HKD4.out
  clear hfa hFSa
  have HQ' : Hid (q = s5 b256 b512 false false fa la) := by show q = _; exact HQ.out
  clear HQ
  have HQ := Lib.hid HQ'.out
  clear HQ'
  refine wp_loop_rounds 4 ?_
  rw [rounds_succ]
  go_wp2_with fail
  have htk := htka
  rcases hN : numIf_ b256 la with _ | ⟨n5, l5⟩
  · have hq : q = none := by rw [HQ.out]; unfold s5; rw [hN]
    subst hq
    have HN := Lib.hid (numberIf_any b256 la wa B rb hFSb.rd)
    rw [hN] at HN
    clear hN
    refine HN.out.mono ?_
    rintro e w' ⟨rfl, hg⟩
    go_wp2
    exact ⟨rfl, rfl, grown_trans hFSb.gr hg⟩
  have HQ5 : Hid (q = s6 b256 b512 false false { fa with e0 := n5 } l5) := by show q = _; rw [HQ.out]; unfold s5; rw [hN]
  have hll5 : l5.length ≤ 16777216 := by have := numIf_le hN; omega
  have hnl5 := (numIf_le hN).2
  have HN := Lib.hid (numberIf_any b256 la wa B rb hFSb.rd)
  rw [hN] at HN
  clear hN HQ
  have HQ := Lib.hid HQ5.out
  clear HQ5
  refine HN.out.mono ?_
  rintro e w' ⟨rfl, hr', hg'⟩
  have hFS := hFSb.step hg' hr'
  have hz := (hFS.draw 27).1
  have hcl : w'.cell? ⟨g, 27, none⟩ = _ := (hFS.draw 27).2.trans (by have := (rowF_is aa htka).e0; simpa using this)
  go_wp2_with fail
  have hFS5 := hFS.putE0 n5 hnl5
  generalize w'.setCell ⟨g, 27, none⟩ (.int .u64 (n5 : Int)) = w7 at *
  clear HN hr' hg' hFS hz hcl hFSb
  obtain ⟨f5, hf5⟩ : ∃ f', f' = { fa with e0 := n5 } := ⟨_, rfl⟩
  rw [← hf5] at hFS5 HQ
  have htk5 : f5.token.length = 16 := by rw [hf5]; exact htka
  have HKD5 : Hid (f5.kind = x.toNat) := by show _ = _; rw [hf5]; exact HKDa.out
  clear hf5
  clear htk
  have htk := htk5
  rw [rounds_succ]
  go_wp2_with fail
  rcases hN : numIf_ b256 l5 with _ | ⟨n6, l6⟩
  · have hq : q = none := by rw [HQ.out]; unfold s6; rw [hN]
    subst hq
    have HN := Lib.hid (numberIf_any b256 l5 w7 B rb hFS5.rd)
    rw [hN] at HN
    clear hN
    refine HN.out.mono ?_
    rintro e w' ⟨rfl, hg⟩
    go_wp2
    exact ⟨rfl, rfl, grown_trans hFS5.gr hg⟩
  have HQ6 : Hid (q = s7 b256 b512 false false { f5 with e1 := n6 } l6) := by show q = _; rw [HQ.out]; unfold s6; rw [hN]
  have hll6 : l6.length ≤ 16777216 := by have := numIf_le hN; omega
  have hnl6 := (numIf_le hN).2
  have HN := Lib.hid (numberIf_any b256 l5 w7 B rb hFS5.rd)
  rw [hN] at HN
  clear hN HQ
  have HQ := Lib.hid HQ6.out
  clear HQ6
  refine HN.out.mono ?_
  rintro e w' ⟨rfl, hr', hg'⟩
  have hFS := hFS5.step hg' hr'
  have hz := (hFS.draw 28).1
  have hcl : w'.cell? ⟨g, 28, none⟩ = _ := (hFS.draw 28).2.trans (by have := (rowF_is aa htk5).e1; simpa using this)
  go_wp2_with fail
  have hFS6 := hFS.putE1 n6 hnl6
  generalize w'.setCell ⟨g, 28, none⟩ (.int .u64 (n6 : Int)) = w8 at *
  clear HN hr' hg' hFS hz hcl hFS5
  obtain ⟨f6, hf6⟩ : ∃ f', f' = { f5 with e1 := n6 } := ⟨_, rfl⟩
  rw [← hf6] at hFS6 HQ
  have htk6 : f6.token.length = 16 := by rw [hf6]; exact htk5
  have HKD6 : Hid (f6.kind = x.toNat) := by show _ = _; rw [hf6]; exact HKD5.out
  clear hf6
  clear htk
  have htk := htk6
  rw [rounds_succ]
  go_wp2_with fail
  rcases hN : numIf_ b256 l6 with _ | ⟨n7, l7⟩
  · have hq : q = none := by rw [HQ.out]; unfold s7; rw [hN]
    subst hq
    have HN := Lib.hid (numberIf_any b256 l6 w8 B rb hFS6.rd)
    rw [hN] at HN
    clear hN
    refine HN.out.mono ?_
    rintro e w' ⟨rfl, hg⟩
    go_wp2
    exact ⟨rfl, rfl, grown_trans hFS6.gr hg⟩
  have HQ7 : Hid (q = s8 b512 false false { f6 with e2 := n7 } l7) := by show q = _; rw [HQ.out]; unfold s7; rw [hN]
  have hll7 : l7.length ≤ 16777216 := by have := numIf_le hN; omega
  have hnl7 := (numIf_le hN).2
  have HN := Lib.hid (numberIf_any b256 l6 w8 B rb hFS6.rd)
  rw [hN] at HN
  clear hN HQ
  have HQ := Lib.hid HQ7.out
  clear HQ7
  refine HN.out.mono ?_
  rintro e w' ⟨rfl, hr', hg'⟩
  have hFS := hFS6.step hg' hr'
  have hz := (hFS.draw 29).1
  have hcl : w'.cell? ⟨g, 29, none⟩ = _ := (hFS.draw 29).2.trans (by have := (rowF_is aa htk6).e2; simpa using this)
  go_wp2_with fail
  have hFS7 := hFS.putE2 n7 hnl7
  generalize w'.setCell ⟨g, 29, none⟩ (.int .u64 (n7 : Int)) = w9 at *
  clear HN hr' hg' hFS hz hcl hFS6
  obtain ⟨f7, hf7⟩ : ∃ f', f' = { f6 with e2 := n7 } := ⟨_, rfl⟩
  rw [← hf7] at hFS7 HQ
  have htk7 : f7.token.length = 16 := by rw [hf7]; exact htk6
  have HKD7 : Hid (f7.kind = x.toNat) := by show _ = _; rw [hf7]; exact HKD6.out
  clear hf7
  rw [rounds_succ]
  have HQ' : Hid (q = s8 b512 false false f7 l7) := by show q = _; rw [HQ.out]
  clear HQ
  have HQ := Lib.hid HQ'.out
  clear HQ'
  have HQ' : Hid (q = sF f7 l7) := by show q = _; rw [HQ.out]; rfl
  clear HQ
  have HQ := Lib.hid HQ'.out
  clear HQ'
  have hHI : (Tryd.prog.info? 32).map (·.size) = some (rowF f7 aa).toArray.size := by rw [show (rowF f7 aa).toArray.size = 30 by simp [rowF_length aa hFS7.fa.at_.tok]]; exact info_frame
  have HI := Lib.hid hHI
  have HFS := Lib.hid hFS7
  clear hHI hFS7
  go_wp2_with (refine wpList_load_any 32 (.tmp 4) rfl rfl g rfl _ (rowF f7 aa).toArray _ HFS.out.wh Tryd.underlying32 rfl HI.out ?_)
  refine (may_any (rowF f7 aa).toArray f7 aa w9 w9.heap.size (rowF_is aa HFS.out.fa.at_.tok) HFS.out.fa.at_ (Nat.le_refl _) (PT.grown HPT.out HFS.out.gr hgB hBr)).mono ?_
  rintro e wm ⟨hy, hn, hb9⟩
  have hg9 : w9.grownBy wm (some rb) := ⟨hb9.os, hb9.tape, hb9.output, hb9.size, fun k hk _ => hb9.block k hk⟩
  have hrd9 : Rd wm B rb l7 := HFS.out.rd.grown ⟨hb9.os, hb9.tape, hb9.output, hb9.size, fun k hk _ => hb9.block k hk⟩ (row := none) (by simp) (by simp)
  have HFS9 := Lib.hid (HFS.out.step hg9 hrd9)
  by_cases hM : MayF f7
  · obtain rfl := hy hM
    have hq : q = some (f7, l7) := by rw [HQ.out]; unfold sF; rw [if_pos hM]
    subst hq
    clear hy hn hM HQ hb9 hg9 hrd9
    go_wp2_with fail
    refine (need_yes _).mono ?_
    rintro e w' ⟨rfl, rfl⟩
    go_wp2_with (first
      | (refine wpList_load_any 32 (.tmp 4) rfl rfl g rfl _ (rowF f7 aa).toArray _ HFS9.out.wh Tryd.underlying32 rfl HI.out ?_)
      | (refine wpList_store_row rfl 32 (.tmp 2) (.tmp 108) rfl w.heap.size (rowF f7 aa).toArray rfl rfl _ _ HFS9.out.res HI.out (by have := HI.out; rw [info_frame] at this; exact Option.some.inj this) (rowF_one f7 aa) ?_))
    have hgr := grown_row wm w.heap.size (rowF f7 aa).toArray
    have hfa := HFS9.out.fa.apart hgr (fun k hk => by obtain rfl := Option.some.inj hk; exact Nat.le_of_lt HFS9.out.gn)
    refine bodyPost_ret (v := .agg (rowF f7 aa).toArray) (results_cell_row Tryd.results34 _ _ w.heap.size _ _ (0, 0) _ rfl (HFS9.out.res.row _) Tryd.underlying32 rfl HI.out) rfl ?_
    have hgn := HFS9.out.gn
    exact ⟨aa, rfl, hfa.at_, fun p hp => by have := hfa.fd p hp; omega, fun p hp => by have := hfa.fc p hp; omega, fun p hp => by have := hfa.fa p hp; omega,
      HFS9.out.rd.grown hgr (by simp; omega) (fun k hk => by obtain rfl := Option.some.inj hk; omega), grown_row_new HFS9.out.gr (Nat.le_refl _) _⟩
  · obtain rfl := hn hM
    have hq : q = none := by rw [HQ.out]; unfold sF; rw [if_neg hM]
    subst hq
    clear hy hn hM HQ hb9 hg9 hrd9
    go_wp2_with fail
    refine (need_no _).mono ?_
    rintro e w' ⟨rfl, rfl⟩
    go_wp2
    exact ⟨rfl, rfl, HFS9.out.gr⟩

end Go.Proofs.YtkkojhkglcigmaaDoor
