/-
  The walk through the statement ParamAppends where they may be.
-/
import Derived.Test.YtpnpbjdkldmmdaaDoorQLawApp
namespace Go.Proofs.YtpnpbjdkldmmdaaDoor
open Go.RowKit
set_option linter.unusedVariables false

/-- 'string(s)' in a region that draws its order. -/
theorem yieldsIf_string {P : Program} {ops : Array Oper} {S : World → Prop} {op : Oper} {a : Act} (hw : Region.wanted op (yielded ops a.tmps) = true) (src dst e : TypeId) (x : Operand) (ho : op.op = .convert src dst x)
    (hs : P.underlying src = some (.slice e)) (he : P.underlying e = some (.int .u8)) (hd : P.underlying dst = some .string) (B : Nat) (A : Option Addr) (n c : Nat) (l : List UInt8) (hx : a.eval x = .slice A n c) (hn : l.length = n) (hS : ∀ w, S w → Sl w B A l) :
    YieldsIf P ops S op (.string (strB l)) a :=
  .inl ⟨hw, fun w hw' => by
    unfold execOp
    simp only [ho, hx, Sem.run_bind, run_string_sl w src dst e hs he hd B A n c l (hS w hw') hn, Result.andThen_ok, Sem.run_pure]⟩

/-- What stands while the last region is under way. -/
structure LQ (w wr : World) (R : Array Value) (A2 : Option Addr) (M : List UInt8) (A : Option Addr) (b : List UInt8) (B2 : Nat) : Prop where
  box : Wh wr w.heap.size 43 R
  out : Sl wr B2 A2 M
  inp : Sl wr w.heap.size A b

set_option maxRecDepth 100000 in
set_option maxHeartbeats 3200000 in
theorem qappl_ok (R : Array Value) (A0 : Option Addr) (c0 : Nat) (A1 : Option Addr) (c1 : Nat) (p : PQ) (hR : R = prC A0 c0 A1 c1 p) (n c : Nat) (A : Option Addr) (b : List UInt8) (w : World) (hT : Tab w) (ht : p.tok.length = 16)
    (h0 : Sl w w.heap.size A0 p.orig) (h1 : Sl w w.heap.size A1 p.cid) (hf : n + p.orig.length + p.cid.length ≤ 1000) (hm : mayQ p = true) (hl : b.length = n) (hs : Sl w w.heap.size A b) :
    Calls Tryd.prog 4 #[.slice A n c, .agg R] w fun e w' => e = .returned (.bool true) ∧ Below w.heap.size w w' := by
  have hbx := BoxQ.new w R p A0 c0 A1 c1 hR ht h0 h1
  have HK := Lib.hid (qknown_any (w.alloc (.cells R 43)) (hT.below hbx.bel hT.lt))
  have HBX := Lib.hid hbx
  have HI := Lib.hid hbx.is.info
  have HRM := Lib.hid (fun w => rmayq_any R A0 c0 A1 c1 p hR w ht)
  have HPM := Lib.hid (fun w => may_any R A0 c0 A1 c1 p hR w ht)
  rw [hm] at HRM HPM
  have hbl : (bytesQ p).length ≤ 640 := told_max hm ht 16
  have HS := Lib.hid hs
  have HL := Lib.hid hl
  have HAPP := Lib.hid (fun (wr : World) (h : BoxQ w wr w.heap.size R p A0 c0 A1 c1) => qapp_is h.is hm (hT.below h.bel hT.lt) A n c b hl ((hs.below h.bel).keep h.bel.size (fun _ _ => rfl)) (by omega))
  have HREF := Lib.hid (fun (wr : World) (h : BoxQ w wr w.heap.size R p A0 c0 A1 c1) => refbytesq_any R A0 c0 A1 c1 p hR wr ht hm ((h0.below h.bel).keep h.bel.size (fun _ _ => rfl)) ((h1.below h.bel).keep h.bel.size (fun _ _ => rfl)))
  obtain ⟨B, hB⟩ : ∃ B, bytesQ p = B := ⟨_, rfl⟩
  rw [hB] at hbl HAPP HREF
  obtain ⟨M, hM⟩ : ∃ M, b ++ B = M := ⟨_, rfl⟩
  have hml : M.length = n + B.length := by rw [← hM, List.length_append, hl]
  have HMM := Lib.hid hM
  rw [hM] at HAPP
  have d1 : decide ((1000 : Int) < (n : Int) + (p.orig.length : Int) + (p.cid.length : Int)) = false := decide_eq_false (by omega)
  have HML := Lib.hid hml
  clear hbx hR ht h0 h1 hT hm hl hs hB hM hml
  go_enter Tryd.func4, Tryd.ntmps4
  go_wp2_with fail
  refine HK.out.mono ?_
  rintro e w1 ⟨rfl, hb1⟩
  have HB1 := Lib.hid (HBX.out.below hb1)
  clear hb1 HK HBX
  have e0 := HB1.out.e0
  have e1 := HB1.out.e1
  go_upto_region 6 with (first
    | (refine wpList_load_q 43 (.tmp 3) rfl (by rfl) w.heap.size rfl _ R _ HB1.out.wh Tryd.underlying43 rfl HI.out ?_)
    | (go_at_call 15; refine (HAPP.out _ HB1.out).mono ?_; rintro e w2 ⟨A2, c2, rfl, hc2, hm2, hown2, hb2⟩; have HB2 := Lib.hid (HB1.out.below hb2); have HS2 := Lib.hid (Sv.of_own hown2); clear hb2 hown2))
  clear HB1 e0 e1 HAPP
  go_upto_region 7 with (first
    | (refine wpList_load_q 43 (.tmp 3) rfl (by rfl) w.heap.size rfl _ R _ HB2.out.wh Tryd.underlying43 rfl HI.out ?_)
    | (go_at_call 16; refine (HRM.out _).mono ?_; rintro e w3 ⟨rfl, hb3⟩; have HB3 := Lib.hid (HB2.out.below hb3); have HS3 := Lib.hid ((HS2.out.below hb3).keep hb3.size (fun _ _ => rfl)); clear hb3))
  clear HB2 HS2
  go_upto_region 11 with (first
    | (refine wpList_load_q 43 (.tmp 3) rfl (by rfl) w.heap.size rfl _ R _ HB3.out.wh Tryd.underlying43 rfl HI.out ?_)
    | (go_at_call 17; refine (HPM.out _).mono ?_; rintro e w4 ⟨rfl, hb4⟩; have HB4 := Lib.hid (HB3.out.below hb4); have HS4 := Lib.hid ((HS3.out.below hb4).keep hb4.size (fun _ _ => rfl)); clear hb4))
  clear HB3 HS3
  have HBD := Lib.hid (HB4.out.below (Below.refl _ _).drew)
  have hS0 : LQ w w4.drew R A2 M A b w4.heap.size := ⟨HBD.out.wh, HS4.out.below (Below.refl _ _).drew, HS.out.below HBD.out.bel⟩
  refine wp_region_held_drew (S := fun w' => LQ w w' R A2 M A b w4.heap.size) (by kernel_rfl) hS0 (fun _ => ?_)
  refine wpAnyH_take (i := 0) (v := .slice A2 M.length c2) (List.getElem?_toArray.trans rfl) (by kernel_rfl) (by kernel_rfl) (by kernel_rfl) (fun _ _ _ h => h) (.inl ⟨rfl, fun w _ => rfl⟩) hS0 ?_
  refine act_normQ (by simp only [Act.put, List.setIfInBounds_toArray, List.set_cons_zero, List.set_cons_succ]; rfl) ?_
  refine wpAnyH_take (i := 1) (v := .string (strB M)) (List.getElem?_toArray.trans rfl) (by kernel_rfl) (by kernel_rfl) (by kernel_rfl) (fun _ _ _ h => h) (yieldsIf_string rfl 22 9 5 (.tmp 42) rfl Tryd.underlying22 Tryd.underlying5 Tryd.underlying9 _ A2 M.length c2 M rfl rfl (fun w' h => h.out)) hS0 ?_
  refine act_normQ (by simp only [Act.put, List.setIfInBounds_toArray, List.set_cons_zero, List.set_cons_succ]; rfl) ?_
  refine wpAnyH_take (i := 2) (v := .slice A n c) (List.getElem?_toArray.trans rfl) (by kernel_rfl) (by kernel_rfl) (by kernel_rfl) (fun _ _ _ h => h) (.inl ⟨rfl, fun w _ => rfl⟩) hS0 ?_
  refine act_normQ (by simp only [Act.put, List.setIfInBounds_toArray, List.set_cons_zero, List.set_cons_succ]; rfl) ?_
  refine wpAnyH_take (i := 3) (v := .string (strB b)) (List.getElem?_toArray.trans rfl) (by kernel_rfl) (by kernel_rfl) (by kernel_rfl) (fun _ _ _ h => h) (yieldsIf_string rfl 22 9 5 (.tmp 44) rfl Tryd.underlying22 Tryd.underlying5 Tryd.underlying9 _ A n c b rfl HL.out (fun w' h => h.inp)) hS0 ?_
  refine act_normQ (by simp only [Act.put, List.setIfInBounds_toArray, List.set_cons_zero, List.set_cons_succ]; rfl) ?_
  refine wpAnyH_take (i := 4) (v := .agg R) (List.getElem?_toArray.trans rfl) (by kernel_rfl) (by kernel_rfl) (by kernel_rfl) (fun _ _ _ h => h) (yieldsIf_load_mid (by rfl) 43 (.tmp 3) rfl w.heap.size 0 rfl R.toList _ (fun w' hS => row_rangeQ hS.box) Tryd.underlying43 rfl (by rw [Array.length_toList]; exact HI.out)) hS0 ?_
  refine act_normQ (by simp only [Act.put, List.setIfInBounds_toArray, List.set_cons_zero, List.set_cons_succ]; rfl) ?_
  refine wpAnyH_ready (rs := [5]) (by kernel_rfl) (by simp) (AllReadyH.cons (List.getElem?_toArray.trans rfl) (fun K' hK => ?_) AllReadyH.nil)
  refine wanted_goQ rfl ?_
  go_simp
  refine (HREF.out _ HBD.out).mono ?_
  rintro e w6 ⟨A6, c6, rfl, hc6, hm6, hown6, hb6⟩
  have hS6 : LQ w w6 R A2 M A b w4.heap.size := ⟨hS0.box.below hb6 hS0.box.lt, hS0.out.below hb6, hS0.inp.below (hb6.mono HBD.out.bel.size)⟩
  have hstr := run_string_sl (P := Tryd.prog) w6 22 9 5 Tryd.underlying22 Tryd.underlying5 Tryd.underlying9 _ A6 B.length c6 _ (Sv.of_own hown6) rfl
  have hBF := (HBD.out.below hb6).bel
  have hsb : (strB B).size ≤ 640 := by rw [strB_len]; exact hbl
  have hsb2 : (strB b).size ≤ 1000 := by rw [strB_len, HL.out]; omega
  have happ : strB b ++ strB B = strB M := by rw [strB_app, HMM.out]
  refine hK.out _ _ hS6 (fun _ => ?_)
  clear hK K'
  refine wpAnyH_ready (rs := [6]) (by kernel_rfl) (by simp) (AllReadyH.cons (List.getElem?_toArray.trans rfl) (fun K' hK => ?_) AllReadyH.nil)
  refine wanted_goQ rfl ?_
  go_simp
  refine hK.out _ _ hS6 (fun _ => ?_)
  clear hK K'
  refine wpAnyH_ready (rs := [7]) (by kernel_rfl) (by simp) (AllReadyH.cons (List.getElem?_toArray.trans rfl) (fun K' hK => ?_) AllReadyH.nil)
  refine wanted_goQ rfl ?_
  go_simp
  rw [if_neg (by omega)]
  refine hK.out _ _ hS6 (fun _ => ?_)
  clear hK K'
  refine wpAnyH_ready (rs := [8]) (by kernel_rfl) (by simp) (AllReadyH.cons (List.getElem?_toArray.trans rfl) (fun K' hK => ?_) AllReadyH.nil)
  refine wanted_goQ rfl ?_
  go_simp
  refine hK.out _ _ hS6 (fun _ => ?_)
  clear hK K'
  refine wpAnyH_ready (rs := [9]) (by kernel_rfl) (by simp) (AllReadyH.cons (List.getElem?_toArray.trans rfl) (fun K' hK => ?_) AllReadyH.nil)
  refine wanted_goQ rfl ?_
  go_simp
  refine hK.out _ _ hS6 (fun _ => ?_)
  clear hK K'
  refine wpAnyH_ready (rs := [10]) (by kernel_rfl) (by simp) (AllReadyH.cons (List.getElem?_toArray.trans rfl) (fun K' hK => ?_) AllReadyH.nil)
  refine wanted_goQ rfl ?_
  go_simp
  refine hK.out _ _ hS6 (fun _ => ?_)
  clear hK K'
  refine wpAnyH_ready (rs := [11]) (by kernel_rfl) (by simp) (AllReadyH.cons (List.getElem?_toArray.trans rfl) (fun K' hK => ?_) AllReadyH.nil)
  refine wanted_goQ rfl ?_
  go_simp
  refine hK.out _ _ hS6 (fun _ => ?_)
  clear hK K'
  refine wpAnyH_ready (rs := [12]) (by kernel_rfl) (by simp) (AllReadyH.cons (List.getElem?_toArray.trans rfl) (fun K' hK => ?_) AllReadyH.nil)
  refine wanted_goQ rfl ?_
  go_simp
  refine hK.out _ _ hS6 (fun _ => ?_)
  clear hK K'
  refine wpAnyH_ready (rs := [13]) (by kernel_rfl) (by simp) (AllReadyH.cons (List.getElem?_toArray.trans rfl) (fun K' hK => ?_) AllReadyH.nil)
  refine wanted_goQ rfl ?_
  go_simp
  refine hK.out _ _ hS6 (fun _ => ?_)
  clear hK K'
  refine wpAnyH_done (by kernel_rfl) ?_ _
  go_wp2_with fail
  go_ret
  exact ⟨rfl, hBF⟩

theorem qappl_any (p : PQ) (A0 : Option Addr) (c0 : Nat) (A1 : Option Addr) (c1 : Nat) (c : Nat) (A : Option Addr) (b : List UInt8) (w : World) (hT : Tab w) (ht : p.tok.length = 16)
    (h0 : Sl w w.heap.size A0 p.orig) (h1 : Sl w w.heap.size A1 p.cid) (q0 : p.orig.length ≤ 140737488351232) (q1 : p.cid.length ≤ 140737488351232) (hs : Sl w w.heap.size A b) (hn : b.length ≤ 140737488351232) :
    Calls Tryd.prog 4 #[.slice A b.length c, .agg (prC A0 c0 A1 c1 p)] w fun e w' => e = .returned (.bool true) ∧ Below w.heap.size w w' := by
  by_cases hf : b.length + p.orig.length + p.cid.length ≤ 1000
  case neg => exact qappl_long _ A0 c0 A1 c1 p rfl b.length c A w hT ht h0 h1 q0 q1 hn (by omega)
  cases hm : mayQ p
  · exact qappl_bad _ A0 c0 A1 c1 p rfl b.length c A w hT ht h0 h1 hf hm
  · exact qappl_ok _ A0 c0 A1 c1 p rfl b.length c A b w hT ht h0 h1 hf hm rfl hs

end Go.Proofs.YtpnpbjdkldmmdaaDoor
