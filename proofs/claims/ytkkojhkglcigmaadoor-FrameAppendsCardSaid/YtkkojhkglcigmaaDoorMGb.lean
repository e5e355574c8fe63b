/-
  The walk through hostlerref02.spare: made by tools/gen_spare3.py. Each guarded operation's slot holds a value behind a name (gv): no way parts.
  The walk through hostlerref02.ranges: made by tools/gen_ranges.py.
  The walk through hostlerref02.May: made by tools/gen_refmay.py.
-/
import Derived.Test.YtkkojhkglcigmaaDoorMGa
import Derived.Test.YtkkojhkglcigmaaDoorFTake
import Derived.Test.YtkkojhkglcigmaaDoorOnly
import Derived.Deep.MidRow
import Derived.Deep.RegionHeld3
import Derived.Deep.DeepCutAuto
import Derived.Deep.QuietTactic
import Derived.BigQuiet
import Derived.WalkLawsBesides
import Derived.Test.YtkkojhkglcigmaaDoorMayParts
namespace Go.Proofs.YtkkojhkglcigmaaDoor

section
open Go.RowKit
set_option linter.unusedVariables false
set_option linter.unusedSimpArgs false

/-- A slot that is written only if c. -/
def gv (c : Bool) (v : Value) : Value := bif c then v else undef
theorem wpL_val {P : Program} {ops : Array Oper} {rest : List Oper} {o : Oper} {a : Act} {w : World} {Q : Exit → Act → World → Prop} (v : Value) (hw : Region.wanted o (yielded ops a.tmps) = true) (he : (execOp a.eval o).run P w = .ok (.value v) w)
    (h : wpList P ops Q rest (a.put o.dst v) w) : wpList P ops Q (o :: rest) a w :=
  wpList_step fun K hK => by
    rw [if_pos hw]
    unfold Oper.wp
    rw [he]
    exact hK _ _ h
theorem wpL_sym {P : Program} {ops : Array Oper} {rest : List Oper} {o : Oper} {a : Act} {w : World} {Q : Exit → Act → World → Prop} (c : Bool) (v : Value) (hw : Region.wanted o (yielded ops a.tmps) = c) (he : c = true → (execOp a.eval o).run P w = .ok (.value v) w)
    (h : wpList P ops Q rest (a.put o.dst (gv c v)) w) : wpList P ops Q (o :: rest) a w :=
  wpList_step fun K hK => by
    rw [hw]
    cases c
    · exact hK _ _ h
    · rw [if_pos rfl]
      unfold Oper.wp
      rw [he rfl]
      exact hK _ _ h
theorem wpL_call {P : Program} {ops : Array Oper} {rest : List Oper} {o : Oper} {a : Act} {w : World} {Q : Exit → Act → World → Prop} {f : FuncId} {args : Array Value} (v : Value) (hw : Region.wanted o (yielded ops a.tmps) = true) (he : (execOp a.eval o).run P w = .ok (.enter f args) w)
    (hc : Calls P f args w fun e w' => e = .returned v ∧ w = w') (h : wpList P ops Q rest (a.put o.dst v) w) : wpList P ops Q (o :: rest) a w :=
  wpList_step fun K hK => by
    rw [if_pos hw]
    unfold Oper.wp
    rw [he]
    refine hc.mono ?_
    rintro e w' ⟨rfl, rfl⟩
    exact hK _ _ h
theorem wpL_callS {P : Program} {ops : Array Oper} {rest : List Oper} {o : Oper} {a : Act} {w : World} {Q : Exit → Act → World → Prop} {f : FuncId} {args : Array Value} (c : Bool) (v : Value) (hw : Region.wanted o (yielded ops a.tmps) = c) (he : c = true → (execOp a.eval o).run P w = .ok (.enter f args) w)
    (hc : Calls P f args w fun e w' => e = .returned v ∧ w = w') (h : wpList P ops Q rest (a.put o.dst (gv c v)) w) : wpList P ops Q (o :: rest) a w := by
  cases c
  · exact wpList_step fun K hK => by
      rw [hw]
      exact hK _ _ h
  · exact wpL_call v hw (he rfl) hc h
theorem act_normL {P : Program} {ops : Array Oper} {Q : Exit → Act → World → Prop} {l : List Oper} {a b : Act} {w : World} (h : a = b) (k : wpList P ops Q l b w) : wpList P ops Q l a w := h ▸ k

set_option maxRecDepth 100000 in
set_option maxHeartbeats 8000000 in
theorem spare_any (R : Array Value) (f : PF) (a : SA) (l : List UInt8) (w : World) (hR : RowIs R f a) (ht : f.token.length = 16) (hl : l.length ≤ 100) :
    Calls Tryd.prog 21 #[.agg R, .string (strV l)] w fun e w' => e = .returned (.bool (spareB f (strV l).toList l)) ∧ Below w.heap.size w w' := by
  have kk := fun (c : Nat) (w : World) => has_any l c w hl
  have hwa : Wh (w.alloc (.cells R 32)) w.heap.size 32 R := Wh.new _ _ _
  have HBEL := Lib.hid ((Below.refl w.heap.size w).alloc (Nat.le_refl _) (.cells R 32))
  have HR := Lib.hid hR
  have HT := Lib.hid ht
  obtain ⟨res, hres⟩ : ∃ r, r = spareB f (strV l).toList l := ⟨_, rfl⟩
  rw [← hres]
  have HF := Lib.hid hres
  clear hres
  unfold spareB at HF
  clear hR ht hl
  generalize hH105 : hasB l 105 = H105 at HF
  generalize hH111 : hasB l 111 = H111 at HF
  generalize hH100 : hasB l 100 = H100 at HF
  generalize hH68 : hasB l 68 = H68 at HF
  generalize hH67 : hasB l 67 = H67 at HF
  generalize hH109 : hasB l 109 = H109 at HF
  generalize hH99 : hasB l 99 = H99 at HF
  have k105 := fun w => kk 105 w
  rw [hH105] at k105
  have k105 := Lib.hid k105
  clear hH105
  have k111 := fun w => kk 111 w
  rw [hH111] at k111
  have k111 := Lib.hid k111
  clear hH111
  have k100 := fun w => kk 100 w
  rw [hH100] at k100
  have k100 := Lib.hid k100
  clear hH100
  have k68 := fun w => kk 68 w
  rw [hH68] at k68
  have k68 := Lib.hid k68
  clear hH68
  have k67 := fun w => kk 67 w
  rw [hH67] at k67
  have k67 := Lib.hid k67
  clear hH67
  have k109 := fun w => kk 109 w
  rw [hH109] at k109
  have k109 := Lib.hid k109
  clear hH109
  have k99 := fun w => kk 99 w
  rw [hH99] at k99
  have k99 := Lib.hid k99
  clear hH99
  clear kk
  generalize strV l = s at *
  generalize t83 : (s.toList == [83]) = SS at HF
  generalize t65 : (s.toList == [65]) = SA at HF
  generalize t69 : (s.toList == [69]) = SE at HF
  generalize t80 : (s.toList == [80]) = SP at HF
  have n83 : (s.toList != [83]) = !SS := by rw [← t83]; rfl
  have n65 : (s.toList != [65]) = !SA := by rw [← t65]; rfl
  have n69 : (s.toList != [69]) = !SE := by rw [← t69]; rfl
  have n80 : (s.toList != [80]) = !SP := by rw [← t80]; rfl
  have T83 := Lib.hid t83
  have T65 := Lib.hid t65
  have T69 := Lib.hid t69
  have T80 := Lib.hid t80
  have N69 := Lib.hid n69
  have N80 := Lib.hid n80
  clear t83 t65 t69 t80 n83 n65 n69 n80
  go_enter Tryd.func21, Tryd.ntmps21
  go_upto_region 1 with fail
  generalize (w.alloc (.cells R 32)) = w0 at *
  have CA := Lib.hid fun (i : Nat) (v : Value) (h : R[i]? = some v) => (hwa.cell i).trans h
  clear hwa
  generalize hK : f.token.any nzB = K at HF
  have HK := Lib.hid hK
  clear hK
  go_step
  refine wpL_val (.string s) rfl (by simp [go_sem, gv]) ?_
  refine act_normL (by simp only [Act.put, List.setIfInBounds_toArray, List.set_cons_zero, List.set_cons_succ]; rfl) ?_
  refine wpL_val (.bool SS) rfl (by simp [go_sem, gv, T83.out, T83.out]) ?_
  refine act_normL (by simp only [Act.put, List.setIfInBounds_toArray, List.set_cons_zero, List.set_cons_succ]; rfl) ?_
  refine wpL_val (.bool SS) rfl (by simp [go_sem, gv]) ?_
  refine act_normL (by simp only [Act.put, List.setIfInBounds_toArray, List.set_cons_zero, List.set_cons_succ]; rfl) ?_
  go_upto_region 2 with fail
  go_step
  refine wpL_val (.string s) rfl (by simp [go_sem, gv]) ?_
  refine act_normL (by simp only [Act.put, List.setIfInBounds_toArray, List.set_cons_zero, List.set_cons_succ]; rfl) ?_
  refine wpL_val (.bool SA) rfl (by simp [go_sem, gv, T65.out, T65.out]) ?_
  refine act_normL (by simp only [Act.put, List.setIfInBounds_toArray, List.set_cons_zero, List.set_cons_succ]; rfl) ?_
  refine wpL_val (.bool SA) rfl (by simp [go_sem, gv]) ?_
  refine act_normL (by simp only [Act.put, List.setIfInBounds_toArray, List.set_cons_zero, List.set_cons_succ]; rfl) ?_
  refine wpL_sym (!SA) (.string s) (by cases SA <;> rfl) (by cases SA <;> simp [go_sem, gv]) ?_
  refine act_normL (by simp only [Act.put, List.setIfInBounds_toArray, List.set_cons_zero, List.set_cons_succ]; rfl) ?_
  refine wpL_sym (!SA) (.bool SE) (by cases SA <;> rfl) (by cases SA <;> simp [go_sem, gv, T69.out, N69.out]) ?_
  refine act_normL (by simp only [Act.put, List.setIfInBounds_toArray, List.set_cons_zero, List.set_cons_succ]; rfl) ?_
  refine wpL_val (.bool (SA || SE)) rfl (by cases SA <;> simp [go_sem, gv]) ?_
  refine act_normL (by simp only [Act.put, List.setIfInBounds_toArray, List.set_cons_zero, List.set_cons_succ]; rfl) ?_
  refine wpL_val (.bool (SA || SE)) rfl (by simp [go_sem, gv]) ?_
  refine act_normL (by simp only [Act.put, List.setIfInBounds_toArray, List.set_cons_zero, List.set_cons_succ]; rfl) ?_
  generalize hVA : (SA || SE) = VA
  have DVA := Lib.hid hVA
  clear hVA
  go_upto_region 3 with fail
  go_step
  refine wpL_val (.string s) rfl (by simp [go_sem, gv]) ?_
  refine act_normL (by simp only [Act.put, List.setIfInBounds_toArray, List.set_cons_zero, List.set_cons_succ]; rfl) ?_
  refine wpL_call (.bool H105) rfl (by simp [go_sem, gv]) (k105.out w0) ?_
  refine act_normL (by simp only [Act.put, List.setIfInBounds_toArray, List.set_cons_zero, List.set_cons_succ]; rfl) ?_
  refine wpL_val (.bool H105) rfl (by simp [go_sem, gv]) ?_
  refine act_normL (by simp only [Act.put, List.setIfInBounds_toArray, List.set_cons_zero, List.set_cons_succ]; rfl) ?_
  refine wpL_sym (!H105) (.bool SS) (by cases H105 <;> rfl) (by cases H105 <;> simp [go_sem, gv]) ?_
  refine act_normL (by simp only [Act.put, List.setIfInBounds_toArray, List.set_cons_zero, List.set_cons_succ]; rfl) ?_
  refine wpL_val (.bool (H105 || SS)) rfl (by cases H105 <;> simp [go_sem, gv]) ?_
  refine act_normL (by simp only [Act.put, List.setIfInBounds_toArray, List.set_cons_zero, List.set_cons_succ]; rfl) ?_
  refine wpL_val (.bool (H105 || SS)) rfl (by simp [go_sem, gv]) ?_
  refine act_normL (by simp only [Act.put, List.setIfInBounds_toArray, List.set_cons_zero, List.set_cons_succ]; rfl) ?_
  generalize hVI : (H105 || SS) = VI
  have DVI := Lib.hid hVI
  clear hVI
  go_upto_region 4 with fail
  go_step
  refine wpL_val (.string s) rfl (by simp [go_sem, gv]) ?_
  refine act_normL (by simp only [Act.put, List.setIfInBounds_toArray, List.set_cons_zero, List.set_cons_succ]; rfl) ?_
  refine wpL_call (.bool H111) rfl (by simp [go_sem, gv]) (k111.out w0) ?_
  refine act_normL (by simp only [Act.put, List.setIfInBounds_toArray, List.set_cons_zero, List.set_cons_succ]; rfl) ?_
  refine wpL_val (.bool H111) rfl (by simp [go_sem, gv]) ?_
  refine act_normL (by simp only [Act.put, List.setIfInBounds_toArray, List.set_cons_zero, List.set_cons_succ]; rfl) ?_
  refine wpL_sym (!H111) (.bool SS) (by cases H111 <;> rfl) (by cases H111 <;> simp [go_sem, gv]) ?_
  refine act_normL (by simp only [Act.put, List.setIfInBounds_toArray, List.set_cons_zero, List.set_cons_succ]; rfl) ?_
  refine wpL_val (.bool (H111 || SS)) rfl (by cases H111 <;> simp [go_sem, gv]) ?_
  refine act_normL (by simp only [Act.put, List.setIfInBounds_toArray, List.set_cons_zero, List.set_cons_succ]; rfl) ?_
  refine wpL_val (.bool (H111 || SS)) rfl (by simp [go_sem, gv]) ?_
  refine act_normL (by simp only [Act.put, List.setIfInBounds_toArray, List.set_cons_zero, List.set_cons_succ]; rfl) ?_
  generalize hVO : (H111 || SS) = VO
  have DVO := Lib.hid hVO
  clear hVO
  go_upto_region 5 with fail
  go_step
  refine wpL_val (.string s) rfl (by simp [go_sem, gv]) ?_
  refine act_normL (by simp only [Act.put, List.setIfInBounds_toArray, List.set_cons_zero, List.set_cons_succ]; rfl) ?_
  refine wpL_call (.bool H100) rfl (by simp [go_sem, gv]) (k100.out w0) ?_
  refine act_normL (by simp only [Act.put, List.setIfInBounds_toArray, List.set_cons_zero, List.set_cons_succ]; rfl) ?_
  refine wpL_val (.bool H100) rfl (by simp [go_sem, gv]) ?_
  refine act_normL (by simp only [Act.put, List.setIfInBounds_toArray, List.set_cons_zero, List.set_cons_succ]; rfl) ?_
  refine wpL_sym (!H100) (.string s) (by cases H100 <;> rfl) (by cases H100 <;> simp [go_sem, gv]) ?_
  refine act_normL (by simp only [Act.put, List.setIfInBounds_toArray, List.set_cons_zero, List.set_cons_succ]; rfl) ?_
  refine wpL_callS (!H100) (.bool H68) (by cases H100 <;> rfl) (by cases H100 <;> simp [go_sem, gv]) (k68.out w0) ?_
  refine act_normL (by simp only [Act.put, List.setIfInBounds_toArray, List.set_cons_zero, List.set_cons_succ]; rfl) ?_
  refine wpL_val (.bool (H100 || H68)) rfl (by cases H100 <;> simp [go_sem, gv]) ?_
  refine act_normL (by simp only [Act.put, List.setIfInBounds_toArray, List.set_cons_zero, List.set_cons_succ]; rfl) ?_
  refine wpL_val (.bool (H100 || H68)) rfl (by simp [go_sem, gv]) ?_
  refine act_normL (by simp only [Act.put, List.setIfInBounds_toArray, List.set_cons_zero, List.set_cons_succ]; rfl) ?_
  refine wpL_sym (!(H100 || H68)) (.bool SS) (by cases H100 <;> cases H68 <;> rfl) (by cases H100 <;> cases H68 <;> simp [go_sem, gv]) ?_
  refine act_normL (by simp only [Act.put, List.setIfInBounds_toArray, List.set_cons_zero, List.set_cons_succ]; rfl) ?_
  refine wpL_val (.bool ((H100 || H68) || SS)) rfl (by cases H100 <;> cases H68 <;> simp [go_sem, gv]) ?_
  refine act_normL (by simp only [Act.put, List.setIfInBounds_toArray, List.set_cons_zero, List.set_cons_succ]; rfl) ?_
  refine wpL_val (.bool ((H100 || H68) || SS)) rfl (by simp [go_sem, gv]) ?_
  refine act_normL (by simp only [Act.put, List.setIfInBounds_toArray, List.set_cons_zero, List.set_cons_succ]; rfl) ?_
  generalize hVD : ((H100 || H68) || SS) = VD
  have DVD := Lib.hid hVD
  clear hVD
  go_upto_region 6 with fail
  go_step
  refine wpL_val (.string s) rfl (by simp [go_sem, gv]) ?_
  refine act_normL (by simp only [Act.put, List.setIfInBounds_toArray, List.set_cons_zero, List.set_cons_succ]; rfl) ?_
  refine wpL_call (.bool H67) rfl (by simp [go_sem, gv]) (k67.out w0) ?_
  refine act_normL (by simp only [Act.put, List.setIfInBounds_toArray, List.set_cons_zero, List.set_cons_succ]; rfl) ?_
  refine wpL_val (.bool H67) rfl (by simp [go_sem, gv]) ?_
  refine act_normL (by simp only [Act.put, List.setIfInBounds_toArray, List.set_cons_zero, List.set_cons_succ]; rfl) ?_
  go_wp2_with fail
  go_loop [11, 12] (fun v i => ∃ k : Nat, k ≤ 16 ∧ v = .bool ((f.token.take k).any nzB) ∧ i = .int .i64 (k : Int)) (fun _ i => 16 - (intOf i).toNat)
  case atStart => exact ⟨0, Nat.zero_le _, rfl, rfl⟩
  case round =>
    obtain ⟨k, hk, rfl, rfl⟩ := hrel
    by_cases hlt : k < 16
    · have d1 : decide ((k : Int) < 16) = true := decide_eq_true (by omega)
      obtain ⟨x, hx⟩ : ∃ x, f.token[k]? = some x := ⟨_, List.getElem?_eq_getElem (by rw [HT.out]; exact hlt)⟩
      have hc : w0.cell? ⟨w.heap.size, 9 + k, none⟩ = some (.int .u8 (x.toNat : Int)) := CA.out (9 + k) _ (HR.out.tok k (cell8 x) (by rw [List.getElem?_map, hx]; rfl))
      have HN : Hid ((f.token.take (k + 1)).any nzB = ((f.token.take k).any nzB || nzB x)) := by
        show _ = _
        rw [List.take_add_one, hx, List.any_append]; simp
      have HX : Hid (nzB x = ((x.toNat : Int) != 0)) := rfl
      clear hx
      generalize x.toNat = y at *
      generalize nzB x = nb at *
      generalize hq : (f.token.take k).any nzB = q at *
      clear hq
      generalize hy : ((y : Int) != 0) = z at *
      have HX2 : Hid (nb = z) := HX.out
      clear HX
      cases q
      · go_wp2_with fail
        go_round
        case rel => exact ⟨k + 1, by omega, by rw [HN.out, HX2.out]; rfl, by go_num⟩
        case measure => simp [intOf]; omega
      · go_wp2_with fail
        go_round
        case rel => exact ⟨k + 1, by omega, by rw [HN.out]; rfl, by go_num⟩
        case measure => simp [intOf]; omega
    obtain rfl : k = 16 := by omega
    have d1 : decide (((16 : Nat) : Int) < 16) = false := rfl
    have hq : (f.token.take 16).any nzB = K := by rw [← HK.out, List.take_of_length_le (by rw [HT.out]; exact Nat.le_refl _)]
    rw [hq]
    clear hq
    have q27 := CA.out 27 _ HR.out.e0
    have q28 := CA.out 28 _ HR.out.e1
    have q29 := CA.out 29 _ HR.out.e2
    have q1 := CA.out 1 _ HR.out.id
    have q2 := CA.out 2 _ HR.out.off
    have q3 := CA.out 3 _ HR.out.max
    have q4 := CA.out 4 _ HR.out.code
    have q5 := CA.out 5 _ HR.out.n
    have q6 := CA.out 6 _ HR.out.fin
    have q7 := CA.out 7 _ HR.out.data
    have q8 := CA.out 8 _ HR.out.cid
    have q25 := CA.out 25 _ HR.out.acks
    have q26 := CA.out 26 _ HR.out.delay
    unfold ecnZ at HF
    generalize (f.id : Int) = y1 at *
    generalize (f.off : Int) = y2 at *
    generalize (f.max : Int) = y3 at *
    generalize (f.code : Int) = y4 at *
    generalize (f.n : Int) = y5 at *
    generalize f.fin = FN at *
    generalize (f.delay : Int) = y26 at *
    generalize (f.e0 : Int) = y27 at *
    generalize (f.e1 : Int) = y28 at *
    generalize (f.e2 : Int) = y29 at *
    generalize f.data.length = nd at *
    generalize f.cid.length = nc at *
    generalize f.acks.length = na at *
    generalize hX1 : (y1 != 0) = X1 at HF
    generalize hX2 : (y2 != 0) = X2 at HF
    generalize hX3 : (y3 != 0) = X3 at HF
    generalize hX4 : (y4 != 0) = X4 at HF
    generalize hX5 : (y5 != 0) = X5 at HF
    generalize hY9 : (y26 != 0) = Y9 at HF
    generalize hE0 : (y27 != 0) = E0 at HF
    generalize hE1 : (y28 != 0) = E1 at HF
    generalize hE2 : (y29 != 0) = E2 at HF
    generalize hX7 : decide ((nd : Int) > 0) = X7 at HF
    generalize hX8 : decide ((nc : Int) > 0) = X8 at HF
    generalize hX9 : decide ((na : Int) > 0) = X9 at HF
    have gX7 : decide (0 < nd) = X7 := by rw [← hX7, decide_eq_decide]; omega
    have gX8 : decide (0 < nc) = X8 := by rw [← hX8, decide_eq_decide]; omega
    have gX9 : decide (0 < na) = X9 := by rw [← hX9, decide_eq_decide]; omega
    clear HR HT CA HK d1 hk hlt
    go_upto_region 12 with fail
    go_step
    refine wpL_val (.pointer (some ⟨w.heap.size, 27, none⟩)) rfl (by simp [go_sem, gv]) ?_
    refine act_normL (by simp only [Act.put, List.setIfInBounds_toArray, List.set_cons_zero, List.set_cons_succ]; rfl) ?_
    refine wpL_val (.pointer (some ⟨w.heap.size, 27, none⟩)) rfl (by simp [go_sem, gv]) ?_
    refine act_normL (by simp only [Act.put, List.setIfInBounds_toArray, List.set_cons_zero, List.set_cons_succ]; rfl) ?_
    refine wpL_val (.int .u64 y27) rfl (by simp [go_sem, gv, q27]) ?_
    refine act_normL (by simp only [Act.put, List.setIfInBounds_toArray, List.set_cons_zero, List.set_cons_succ]; rfl) ?_
    refine wpL_val (.bool E0) rfl (by simp [go_sem, gv, hE0]) ?_
    refine act_normL (by simp only [Act.put, List.setIfInBounds_toArray, List.set_cons_zero, List.set_cons_succ]; rfl) ?_
    refine wpL_val (.bool E0) rfl (by simp [go_sem, gv]) ?_
    refine act_normL (by simp only [Act.put, List.setIfInBounds_toArray, List.set_cons_zero, List.set_cons_succ]; rfl) ?_
    refine wpL_sym (!E0) (.pointer (some ⟨w.heap.size, 27, none⟩)) (by cases E0 <;> rfl) (by cases E0 <;> simp [go_sem, gv]) ?_
    refine act_normL (by simp only [Act.put, List.setIfInBounds_toArray, List.set_cons_zero, List.set_cons_succ]; rfl) ?_
    refine wpL_sym (!E0) (.pointer (some ⟨w.heap.size, 28, none⟩)) (by cases E0 <;> rfl) (by cases E0 <;> simp [go_sem, gv]) ?_
    refine act_normL (by simp only [Act.put, List.setIfInBounds_toArray, List.set_cons_zero, List.set_cons_succ]; rfl) ?_
    refine wpL_sym (!E0) (.int .u64 y28) (by cases E0 <;> rfl) (by cases E0 <;> simp [go_sem, gv, q28]) ?_
    refine act_normL (by simp only [Act.put, List.setIfInBounds_toArray, List.set_cons_zero, List.set_cons_succ]; rfl) ?_
    refine wpL_sym (!E0) (.bool E1) (by cases E0 <;> rfl) (by cases E0 <;> simp [go_sem, gv, hE1]) ?_
    refine act_normL (by simp only [Act.put, List.setIfInBounds_toArray, List.set_cons_zero, List.set_cons_succ]; rfl) ?_
    refine wpL_val (.bool (E0 || E1)) rfl (by cases E0 <;> simp [go_sem, gv]) ?_
    refine act_normL (by simp only [Act.put, List.setIfInBounds_toArray, List.set_cons_zero, List.set_cons_succ]; rfl) ?_
    refine wpL_val (.bool (E0 || E1)) rfl (by simp [go_sem, gv]) ?_
    refine act_normL (by simp only [Act.put, List.setIfInBounds_toArray, List.set_cons_zero, List.set_cons_succ]; rfl) ?_
    refine wpL_sym (!(E0 || E1)) (.pointer (some ⟨w.heap.size, 27, none⟩)) (by cases E0 <;> cases E1 <;> rfl) (by cases E0 <;> cases E1 <;> simp [go_sem, gv]) ?_
    refine act_normL (by simp only [Act.put, List.setIfInBounds_toArray, List.set_cons_zero, List.set_cons_succ]; rfl) ?_
    refine wpL_sym (!(E0 || E1)) (.pointer (some ⟨w.heap.size, 29, none⟩)) (by cases E0 <;> cases E1 <;> rfl) (by cases E0 <;> cases E1 <;> simp [go_sem, gv]) ?_
    refine act_normL (by simp only [Act.put, List.setIfInBounds_toArray, List.set_cons_zero, List.set_cons_succ]; rfl) ?_
    refine wpL_sym (!(E0 || E1)) (.int .u64 y29) (by cases E0 <;> cases E1 <;> rfl) (by cases E0 <;> cases E1 <;> simp [go_sem, gv, q29]) ?_
    refine act_normL (by simp only [Act.put, List.setIfInBounds_toArray, List.set_cons_zero, List.set_cons_succ]; rfl) ?_
    refine wpL_sym (!(E0 || E1)) (.bool E2) (by cases E0 <;> cases E1 <;> rfl) (by cases E0 <;> cases E1 <;> simp [go_sem, gv, hE2]) ?_
    refine act_normL (by simp only [Act.put, List.setIfInBounds_toArray, List.set_cons_zero, List.set_cons_succ]; rfl) ?_
    refine wpL_val (.bool ((E0 || E1) || E2)) rfl (by cases E0 <;> cases E1 <;> simp [go_sem, gv]) ?_
    refine act_normL (by simp only [Act.put, List.setIfInBounds_toArray, List.set_cons_zero, List.set_cons_succ]; rfl) ?_
    refine wpL_val (.bool ((E0 || E1) || E2)) rfl (by simp [go_sem, gv]) ?_
    refine act_normL (by simp only [Act.put, List.setIfInBounds_toArray, List.set_cons_zero, List.set_cons_succ]; rfl) ?_
    generalize hVE : ((E0 || E1) || E2) = VE
    have DVE := Lib.hid hVE
    clear hVE
    go_upto_region 13 with fail
    go_step
    refine wpL_val (.bool VI) rfl (by simp [go_sem, gv]) ?_
    refine act_normL (by simp only [Act.put, List.setIfInBounds_toArray, List.set_cons_zero, List.set_cons_succ]; rfl) ?_
    refine wpL_val (.bool (!VI)) rfl (by simp [go_sem, gv]) ?_
    refine act_normL (by simp only [Act.put, List.setIfInBounds_toArray, List.set_cons_zero, List.set_cons_succ]; rfl) ?_
    refine wpL_val (.bool (!VI)) rfl (by simp [go_sem, gv]) ?_
    refine act_normL (by simp only [Act.put, List.setIfInBounds_toArray, List.set_cons_zero, List.set_cons_succ]; rfl) ?_
    refine wpL_sym (!VI) (.pointer (some ⟨w.heap.size, 1, none⟩)) (by cases VI <;> rfl) (by cases VI <;> simp [go_sem, gv]) ?_
    refine act_normL (by simp only [Act.put, List.setIfInBounds_toArray, List.set_cons_zero, List.set_cons_succ]; rfl) ?_
    refine wpL_sym (!VI) (.int .u64 y1) (by cases VI <;> rfl) (by cases VI <;> simp [go_sem, gv, q1]) ?_
    refine act_normL (by simp only [Act.put, List.setIfInBounds_toArray, List.set_cons_zero, List.set_cons_succ]; rfl) ?_
    refine wpL_sym (!VI) (.bool X1) (by cases VI <;> rfl) (by cases VI <;> simp [go_sem, gv, hX1]) ?_
    refine act_normL (by simp only [Act.put, List.setIfInBounds_toArray, List.set_cons_zero, List.set_cons_succ]; rfl) ?_
    refine wpL_val (.bool ((!VI) && X1)) rfl (by cases VI <;> simp [go_sem, gv]) ?_
    refine act_normL (by simp only [Act.put, List.setIfInBounds_toArray, List.set_cons_zero, List.set_cons_succ]; rfl) ?_
    generalize hA1 : ((!VI) && X1) = A1
    have DA1 := Lib.hid hA1
    clear hA1
    refine wpL_val (.bool A1) rfl (by simp [go_sem, gv]) ?_
    refine act_normL (by simp only [Act.put, List.setIfInBounds_toArray, List.set_cons_zero, List.set_cons_succ]; rfl) ?_
    refine wpL_sym (!A1) (.bool VO) (by cases A1 <;> rfl) (by cases A1 <;> simp [go_sem, gv]) ?_
    refine act_normL (by simp only [Act.put, List.setIfInBounds_toArray, List.set_cons_zero, List.set_cons_succ]; rfl) ?_
    refine wpL_sym (!A1) (.bool (!VO)) (by cases A1 <;> rfl) (by cases A1 <;> simp [go_sem, gv]) ?_
    refine act_normL (by simp only [Act.put, List.setIfInBounds_toArray, List.set_cons_zero, List.set_cons_succ]; rfl) ?_
    refine wpL_sym (!A1) (.bool (!VO)) (by cases A1 <;> rfl) (by cases A1 <;> simp [go_sem, gv]) ?_
    refine act_normL (by simp only [Act.put, List.setIfInBounds_toArray, List.set_cons_zero, List.set_cons_succ]; rfl) ?_
    refine wpL_sym ((!A1) && (!VO)) (.pointer (some ⟨w.heap.size, 2, none⟩)) (by cases A1 <;> cases VO <;> rfl) (by cases A1 <;> cases VO <;> simp [go_sem, gv]) ?_
    refine act_normL (by simp only [Act.put, List.setIfInBounds_toArray, List.set_cons_zero, List.set_cons_succ]; rfl) ?_
    refine wpL_sym ((!A1) && (!VO)) (.int .u64 y2) (by cases A1 <;> cases VO <;> rfl) (by cases A1 <;> cases VO <;> simp [go_sem, gv, q2]) ?_
    refine act_normL (by simp only [Act.put, List.setIfInBounds_toArray, List.set_cons_zero, List.set_cons_succ]; rfl) ?_
    refine wpL_sym ((!A1) && (!VO)) (.bool X2) (by cases A1 <;> cases VO <;> rfl) (by cases A1 <;> cases VO <;> simp [go_sem, gv, hX2]) ?_
    refine act_normL (by simp only [Act.put, List.setIfInBounds_toArray, List.set_cons_zero, List.set_cons_succ]; rfl) ?_
    refine wpL_sym (!A1) (.bool ((!VO) && X2)) (by cases A1 <;> rfl) (by cases A1 <;> cases VO <;> simp [go_sem, gv]) ?_
    refine act_normL (by simp only [Act.put, List.setIfInBounds_toArray, List.set_cons_zero, List.set_cons_succ]; rfl) ?_
    refine wpL_val (.bool (A1 || ((!VO) && X2))) rfl (by cases A1 <;> simp [go_sem, gv]) ?_
    refine act_normL (by simp only [Act.put, List.setIfInBounds_toArray, List.set_cons_zero, List.set_cons_succ]; rfl) ?_
    generalize hA2 : (A1 || ((!VO) && X2)) = A2
    have DA2 := Lib.hid hA2
    clear hA2
    refine wpL_val (.bool A2) rfl (by simp [go_sem, gv]) ?_
    refine act_normL (by simp only [Act.put, List.setIfInBounds_toArray, List.set_cons_zero, List.set_cons_succ]; rfl) ?_
    refine wpL_sym (!A2) (.string s) (by cases A2 <;> rfl) (by cases A2 <;> simp [go_sem, gv]) ?_
    refine act_normL (by simp only [Act.put, List.setIfInBounds_toArray, List.set_cons_zero, List.set_cons_succ]; rfl) ?_
    refine wpL_callS (!A2) (.bool H109) (by cases A2 <;> rfl) (by cases A2 <;> simp [go_sem, gv]) (k109.out w0) ?_
    refine act_normL (by simp only [Act.put, List.setIfInBounds_toArray, List.set_cons_zero, List.set_cons_succ]; rfl) ?_
    refine wpL_sym (!A2) (.bool (!H109)) (by cases A2 <;> rfl) (by cases A2 <;> simp [go_sem, gv]) ?_
    refine act_normL (by simp only [Act.put, List.setIfInBounds_toArray, List.set_cons_zero, List.set_cons_succ]; rfl) ?_
    refine wpL_sym (!A2) (.bool (!H109)) (by cases A2 <;> rfl) (by cases A2 <;> simp [go_sem, gv]) ?_
    refine act_normL (by simp only [Act.put, List.setIfInBounds_toArray, List.set_cons_zero, List.set_cons_succ]; rfl) ?_
    refine wpL_sym ((!A2) && (!H109)) (.pointer (some ⟨w.heap.size, 3, none⟩)) (by cases A2 <;> cases H109 <;> rfl) (by cases A2 <;> cases H109 <;> simp [go_sem, gv]) ?_
    refine act_normL (by simp only [Act.put, List.setIfInBounds_toArray, List.set_cons_zero, List.set_cons_succ]; rfl) ?_
    refine wpL_sym ((!A2) && (!H109)) (.int .u64 y3) (by cases A2 <;> cases H109 <;> rfl) (by cases A2 <;> cases H109 <;> simp [go_sem, gv, q3]) ?_
    refine act_normL (by simp only [Act.put, List.setIfInBounds_toArray, List.set_cons_zero, List.set_cons_succ]; rfl) ?_
    refine wpL_sym ((!A2) && (!H109)) (.bool X3) (by cases A2 <;> cases H109 <;> rfl) (by cases A2 <;> cases H109 <;> simp [go_sem, gv, hX3]) ?_
    refine act_normL (by simp only [Act.put, List.setIfInBounds_toArray, List.set_cons_zero, List.set_cons_succ]; rfl) ?_
    refine wpL_sym (!A2) (.bool ((!H109) && X3)) (by cases A2 <;> rfl) (by cases A2 <;> cases H109 <;> simp [go_sem, gv]) ?_
    refine act_normL (by simp only [Act.put, List.setIfInBounds_toArray, List.set_cons_zero, List.set_cons_succ]; rfl) ?_
    refine wpL_val (.bool (A2 || ((!H109) && X3))) rfl (by cases A2 <;> simp [go_sem, gv]) ?_
    refine act_normL (by simp only [Act.put, List.setIfInBounds_toArray, List.set_cons_zero, List.set_cons_succ]; rfl) ?_
    generalize hA3 : (A2 || ((!H109) && X3)) = A3
    have DA3 := Lib.hid hA3
    clear hA3
    refine wpL_val (.bool A3) rfl (by simp [go_sem, gv]) ?_
    refine act_normL (by simp only [Act.put, List.setIfInBounds_toArray, List.set_cons_zero, List.set_cons_succ]; rfl) ?_
    refine wpL_sym (!A3) (.string s) (by cases A3 <;> rfl) (by cases A3 <;> simp [go_sem, gv]) ?_
    refine act_normL (by simp only [Act.put, List.setIfInBounds_toArray, List.set_cons_zero, List.set_cons_succ]; rfl) ?_
    refine wpL_callS (!A3) (.bool H99) (by cases A3 <;> rfl) (by cases A3 <;> simp [go_sem, gv]) (k99.out w0) ?_
    refine act_normL (by simp only [Act.put, List.setIfInBounds_toArray, List.set_cons_zero, List.set_cons_succ]; rfl) ?_
    refine wpL_sym (!A3) (.bool (!H99)) (by cases A3 <;> rfl) (by cases A3 <;> simp [go_sem, gv]) ?_
    refine act_normL (by simp only [Act.put, List.setIfInBounds_toArray, List.set_cons_zero, List.set_cons_succ]; rfl) ?_
    refine wpL_sym (!A3) (.bool (!H99)) (by cases A3 <;> rfl) (by cases A3 <;> simp [go_sem, gv]) ?_
    refine act_normL (by simp only [Act.put, List.setIfInBounds_toArray, List.set_cons_zero, List.set_cons_succ]; rfl) ?_
    refine wpL_sym ((!A3) && (!H99)) (.pointer (some ⟨w.heap.size, 4, none⟩)) (by cases A3 <;> cases H99 <;> rfl) (by cases A3 <;> cases H99 <;> simp [go_sem, gv]) ?_
    refine act_normL (by simp only [Act.put, List.setIfInBounds_toArray, List.set_cons_zero, List.set_cons_succ]; rfl) ?_
    refine wpL_sym ((!A3) && (!H99)) (.int .u64 y4) (by cases A3 <;> cases H99 <;> rfl) (by cases A3 <;> cases H99 <;> simp [go_sem, gv, q4]) ?_
    refine act_normL (by simp only [Act.put, List.setIfInBounds_toArray, List.set_cons_zero, List.set_cons_succ]; rfl) ?_
    refine wpL_sym ((!A3) && (!H99)) (.bool X4) (by cases A3 <;> cases H99 <;> rfl) (by cases A3 <;> cases H99 <;> simp [go_sem, gv, hX4]) ?_
    refine act_normL (by simp only [Act.put, List.setIfInBounds_toArray, List.set_cons_zero, List.set_cons_succ]; rfl) ?_
    refine wpL_sym (!A3) (.bool ((!H99) && X4)) (by cases A3 <;> rfl) (by cases A3 <;> cases H99 <;> simp [go_sem, gv]) ?_
    refine act_normL (by simp only [Act.put, List.setIfInBounds_toArray, List.set_cons_zero, List.set_cons_succ]; rfl) ?_
    refine wpL_val (.bool (A3 || ((!H99) && X4))) rfl (by cases A3 <;> simp [go_sem, gv]) ?_
    refine act_normL (by simp only [Act.put, List.setIfInBounds_toArray, List.set_cons_zero, List.set_cons_succ]; rfl) ?_
    generalize hA4 : (A3 || ((!H99) && X4)) = A4
    have DA4 := Lib.hid hA4
    clear hA4
    refine wpL_val (.bool A4) rfl (by simp [go_sem, gv]) ?_
    refine act_normL (by simp only [Act.put, List.setIfInBounds_toArray, List.set_cons_zero, List.set_cons_succ]; rfl) ?_
    refine wpL_sym (!A4) (.string s) (by cases A4 <;> rfl) (by cases A4 <;> simp [go_sem, gv]) ?_
    refine act_normL (by simp only [Act.put, List.setIfInBounds_toArray, List.set_cons_zero, List.set_cons_succ]; rfl) ?_
    refine wpL_sym (!A4) (.bool (!SP)) (by cases A4 <;> rfl) (by cases A4 <;> simp [go_sem, gv, T80.out, N80.out]) ?_
    refine act_normL (by simp only [Act.put, List.setIfInBounds_toArray, List.set_cons_zero, List.set_cons_succ]; rfl) ?_
    refine wpL_sym (!A4) (.bool (!SP)) (by cases A4 <;> rfl) (by cases A4 <;> simp [go_sem, gv]) ?_
    refine act_normL (by simp only [Act.put, List.setIfInBounds_toArray, List.set_cons_zero, List.set_cons_succ]; rfl) ?_
    refine wpL_sym ((!A4) && (!SP)) (.pointer (some ⟨w.heap.size, 5, none⟩)) (by cases A4 <;> cases SP <;> rfl) (by cases A4 <;> cases SP <;> simp [go_sem, gv]) ?_
    refine act_normL (by simp only [Act.put, List.setIfInBounds_toArray, List.set_cons_zero, List.set_cons_succ]; rfl) ?_
    refine wpL_sym ((!A4) && (!SP)) (.int .u64 y5) (by cases A4 <;> cases SP <;> rfl) (by cases A4 <;> cases SP <;> simp [go_sem, gv, q5]) ?_
    refine act_normL (by simp only [Act.put, List.setIfInBounds_toArray, List.set_cons_zero, List.set_cons_succ]; rfl) ?_
    refine wpL_sym ((!A4) && (!SP)) (.bool X5) (by cases A4 <;> cases SP <;> rfl) (by cases A4 <;> cases SP <;> simp [go_sem, gv, hX5]) ?_
    refine act_normL (by simp only [Act.put, List.setIfInBounds_toArray, List.set_cons_zero, List.set_cons_succ]; rfl) ?_
    refine wpL_sym (!A4) (.bool ((!SP) && X5)) (by cases A4 <;> rfl) (by cases A4 <;> cases SP <;> simp [go_sem, gv]) ?_
    refine act_normL (by simp only [Act.put, List.setIfInBounds_toArray, List.set_cons_zero, List.set_cons_succ]; rfl) ?_
    refine wpL_val (.bool (A4 || ((!SP) && X5))) rfl (by cases A4 <;> simp [go_sem, gv]) ?_
    refine act_normL (by simp only [Act.put, List.setIfInBounds_toArray, List.set_cons_zero, List.set_cons_succ]; rfl) ?_
    generalize hA5 : (A4 || ((!SP) && X5)) = A5
    have DA5 := Lib.hid hA5
    clear hA5
    refine wpL_val (.bool A5) rfl (by simp [go_sem, gv]) ?_
    refine act_normL (by simp only [Act.put, List.setIfInBounds_toArray, List.set_cons_zero, List.set_cons_succ]; rfl) ?_
    refine wpL_sym (!A5) (.bool SS) (by cases A5 <;> rfl) (by cases A5 <;> simp [go_sem, gv]) ?_
    refine act_normL (by simp only [Act.put, List.setIfInBounds_toArray, List.set_cons_zero, List.set_cons_succ]; rfl) ?_
    refine wpL_sym (!A5) (.bool (!SS)) (by cases A5 <;> rfl) (by cases A5 <;> simp [go_sem, gv]) ?_
    refine act_normL (by simp only [Act.put, List.setIfInBounds_toArray, List.set_cons_zero, List.set_cons_succ]; rfl) ?_
    refine wpL_sym (!A5) (.bool (!SS)) (by cases A5 <;> rfl) (by cases A5 <;> simp [go_sem, gv]) ?_
    refine act_normL (by simp only [Act.put, List.setIfInBounds_toArray, List.set_cons_zero, List.set_cons_succ]; rfl) ?_
    refine wpL_sym ((!A5) && (!SS)) (.pointer (some ⟨w.heap.size, 6, none⟩)) (by cases A5 <;> cases SS <;> rfl) (by cases A5 <;> cases SS <;> simp [go_sem, gv]) ?_
    refine act_normL (by simp only [Act.put, List.setIfInBounds_toArray, List.set_cons_zero, List.set_cons_succ]; rfl) ?_
    refine wpL_sym ((!A5) && (!SS)) (.bool FN) (by cases A5 <;> cases SS <;> rfl) (by cases A5 <;> cases SS <;> simp [go_sem, gv, q6]) ?_
    refine act_normL (by simp only [Act.put, List.setIfInBounds_toArray, List.set_cons_zero, List.set_cons_succ]; rfl) ?_
    refine wpL_sym (!A5) (.bool ((!SS) && FN)) (by cases A5 <;> rfl) (by cases A5 <;> cases SS <;> simp [go_sem, gv]) ?_
    refine act_normL (by simp only [Act.put, List.setIfInBounds_toArray, List.set_cons_zero, List.set_cons_succ]; rfl) ?_
    refine wpL_val (.bool (A5 || ((!SS) && FN))) rfl (by cases A5 <;> simp [go_sem, gv]) ?_
    refine act_normL (by simp only [Act.put, List.setIfInBounds_toArray, List.set_cons_zero, List.set_cons_succ]; rfl) ?_
    generalize hA6 : (A5 || ((!SS) && FN)) = A6
    have DA6 := Lib.hid hA6
    clear hA6
    refine wpL_val (.bool A6) rfl (by simp [go_sem, gv]) ?_
    refine act_normL (by simp only [Act.put, List.setIfInBounds_toArray, List.set_cons_zero, List.set_cons_succ]; rfl) ?_
    refine wpL_sym (!A6) (.bool VD) (by cases A6 <;> rfl) (by cases A6 <;> simp [go_sem, gv]) ?_
    refine act_normL (by simp only [Act.put, List.setIfInBounds_toArray, List.set_cons_zero, List.set_cons_succ]; rfl) ?_
    refine wpL_sym (!A6) (.bool (!VD)) (by cases A6 <;> rfl) (by cases A6 <;> simp [go_sem, gv]) ?_
    refine act_normL (by simp only [Act.put, List.setIfInBounds_toArray, List.set_cons_zero, List.set_cons_succ]; rfl) ?_
    refine wpL_sym (!A6) (.bool (!VD)) (by cases A6 <;> rfl) (by cases A6 <;> simp [go_sem, gv]) ?_
    refine act_normL (by simp only [Act.put, List.setIfInBounds_toArray, List.set_cons_zero, List.set_cons_succ]; rfl) ?_
    refine wpL_sym ((!A6) && (!VD)) (.pointer (some ⟨w.heap.size, 7, none⟩)) (by cases A6 <;> cases VD <;> rfl) (by cases A6 <;> cases VD <;> simp [go_sem, gv]) ?_
    refine act_normL (by simp only [Act.put, List.setIfInBounds_toArray, List.set_cons_zero, List.set_cons_succ]; rfl) ?_
    refine wpL_sym ((!A6) && (!VD)) (.slice a.dA nd a.dc) (by cases A6 <;> cases VD <;> rfl) (by cases A6 <;> cases VD <;> simp [go_sem, gv, q7]) ?_
    refine act_normL (by simp only [Act.put, List.setIfInBounds_toArray, List.set_cons_zero, List.set_cons_succ]; rfl) ?_
    refine wpL_sym ((!A6) && (!VD)) (.int .i64 (nd : Int)) (by cases A6 <;> cases VD <;> rfl) (by cases A6 <;> cases VD <;> simp [go_sem, gv]) ?_
    refine act_normL (by simp only [Act.put, List.setIfInBounds_toArray, List.set_cons_zero, List.set_cons_succ]; rfl) ?_
    refine wpL_sym ((!A6) && (!VD)) (.bool X7) (by cases A6 <;> cases VD <;> rfl) (by cases A6 <;> cases VD <;> simp [go_sem, gv, hX7, gX7]) ?_
    refine act_normL (by simp only [Act.put, List.setIfInBounds_toArray, List.set_cons_zero, List.set_cons_succ]; rfl) ?_
    refine wpL_sym (!A6) (.bool ((!VD) && X7)) (by cases A6 <;> rfl) (by cases A6 <;> cases VD <;> simp [go_sem, gv]) ?_
    refine act_normL (by simp only [Act.put, List.setIfInBounds_toArray, List.set_cons_zero, List.set_cons_succ]; rfl) ?_
    refine wpL_val (.bool (A6 || ((!VD) && X7))) rfl (by cases A6 <;> simp [go_sem, gv]) ?_
    refine act_normL (by simp only [Act.put, List.setIfInBounds_toArray, List.set_cons_zero, List.set_cons_succ]; rfl) ?_
    generalize hA7 : (A6 || ((!VD) && X7)) = A7
    have DA7 := Lib.hid hA7
    clear hA7
    refine wpL_val (.bool A7) rfl (by simp [go_sem, gv]) ?_
    refine act_normL (by simp only [Act.put, List.setIfInBounds_toArray, List.set_cons_zero, List.set_cons_succ]; rfl) ?_
    refine wpL_sym (!A7) (.bool H67) (by cases A7 <;> rfl) (by cases A7 <;> simp [go_sem, gv]) ?_
    refine act_normL (by simp only [Act.put, List.setIfInBounds_toArray, List.set_cons_zero, List.set_cons_succ]; rfl) ?_
    refine wpL_sym (!A7) (.bool (!H67)) (by cases A7 <;> rfl) (by cases A7 <;> simp [go_sem, gv]) ?_
    refine act_normL (by simp only [Act.put, List.setIfInBounds_toArray, List.set_cons_zero, List.set_cons_succ]; rfl) ?_
    refine wpL_sym (!A7) (.bool (!H67)) (by cases A7 <;> rfl) (by cases A7 <;> simp [go_sem, gv]) ?_
    refine act_normL (by simp only [Act.put, List.setIfInBounds_toArray, List.set_cons_zero, List.set_cons_succ]; rfl) ?_
    refine wpL_sym ((!A7) && (!H67)) (.pointer (some ⟨w.heap.size, 8, none⟩)) (by cases A7 <;> cases H67 <;> rfl) (by cases A7 <;> cases H67 <;> simp [go_sem, gv]) ?_
    refine act_normL (by simp only [Act.put, List.setIfInBounds_toArray, List.set_cons_zero, List.set_cons_succ]; rfl) ?_
    refine wpL_sym ((!A7) && (!H67)) (.slice a.cA nc a.cc) (by cases A7 <;> cases H67 <;> rfl) (by cases A7 <;> cases H67 <;> simp [go_sem, gv, q8]) ?_
    refine act_normL (by simp only [Act.put, List.setIfInBounds_toArray, List.set_cons_zero, List.set_cons_succ]; rfl) ?_
    refine wpL_sym ((!A7) && (!H67)) (.int .i64 (nc : Int)) (by cases A7 <;> cases H67 <;> rfl) (by cases A7 <;> cases H67 <;> simp [go_sem, gv]) ?_
    refine act_normL (by simp only [Act.put, List.setIfInBounds_toArray, List.set_cons_zero, List.set_cons_succ]; rfl) ?_
    refine wpL_sym ((!A7) && (!H67)) (.bool X8) (by cases A7 <;> cases H67 <;> rfl) (by cases A7 <;> cases H67 <;> simp [go_sem, gv, hX8, gX8]) ?_
    refine act_normL (by simp only [Act.put, List.setIfInBounds_toArray, List.set_cons_zero, List.set_cons_succ]; rfl) ?_
    refine wpL_sym ((!A7) && (!H67)) (.bool X8) (by cases A7 <;> cases H67 <;> rfl) (by cases A7 <;> cases H67 <;> simp [go_sem, gv]) ?_
    refine act_normL (by simp only [Act.put, List.setIfInBounds_toArray, List.set_cons_zero, List.set_cons_succ]; rfl) ?_
    refine wpL_sym (((!A7) && (!H67)) && (!X8)) (.bool K) (by cases A7 <;> cases H67 <;> cases X8 <;> rfl) (by cases A7 <;> cases H67 <;> cases X8 <;> simp [go_sem, gv]) ?_
    refine act_normL (by simp only [Act.put, List.setIfInBounds_toArray, List.set_cons_zero, List.set_cons_succ]; rfl) ?_
    refine wpL_sym ((!A7) && (!H67)) (.bool (X8 || K)) (by cases A7 <;> cases H67 <;> rfl) (by cases A7 <;> cases H67 <;> cases X8 <;> simp [go_sem, gv]) ?_
    refine act_normL (by simp only [Act.put, List.setIfInBounds_toArray, List.set_cons_zero, List.set_cons_succ]; rfl) ?_
    refine wpL_sym (!A7) (.bool ((!H67) && (X8 || K))) (by cases A7 <;> rfl) (by cases A7 <;> cases H67 <;> simp [go_sem, gv]) ?_
    refine act_normL (by simp only [Act.put, List.setIfInBounds_toArray, List.set_cons_zero, List.set_cons_succ]; rfl) ?_
    refine wpL_val (.bool (A7 || ((!H67) && (X8 || K)))) rfl (by cases A7 <;> simp [go_sem, gv]) ?_
    refine act_normL (by simp only [Act.put, List.setIfInBounds_toArray, List.set_cons_zero, List.set_cons_succ]; rfl) ?_
    generalize hA8 : (A7 || ((!H67) && (X8 || K))) = A8
    have DA8 := Lib.hid hA8
    clear hA8
    refine wpL_val (.bool A8) rfl (by simp [go_sem, gv]) ?_
    refine act_normL (by simp only [Act.put, List.setIfInBounds_toArray, List.set_cons_zero, List.set_cons_succ]; rfl) ?_
    refine wpL_sym (!A8) (.bool VA) (by cases A8 <;> rfl) (by cases A8 <;> simp [go_sem, gv]) ?_
    refine act_normL (by simp only [Act.put, List.setIfInBounds_toArray, List.set_cons_zero, List.set_cons_succ]; rfl) ?_
    refine wpL_sym (!A8) (.bool (!VA)) (by cases A8 <;> rfl) (by cases A8 <;> simp [go_sem, gv]) ?_
    refine act_normL (by simp only [Act.put, List.setIfInBounds_toArray, List.set_cons_zero, List.set_cons_succ]; rfl) ?_
    refine wpL_sym (!A8) (.bool (!VA)) (by cases A8 <;> rfl) (by cases A8 <;> simp [go_sem, gv]) ?_
    refine act_normL (by simp only [Act.put, List.setIfInBounds_toArray, List.set_cons_zero, List.set_cons_succ]; rfl) ?_
    refine wpL_sym ((!A8) && (!VA)) (.pointer (some ⟨w.heap.size, 25, none⟩)) (by cases A8 <;> cases VA <;> rfl) (by cases A8 <;> cases VA <;> simp [go_sem, gv]) ?_
    refine act_normL (by simp only [Act.put, List.setIfInBounds_toArray, List.set_cons_zero, List.set_cons_succ]; rfl) ?_
    refine wpL_sym ((!A8) && (!VA)) (.slice a.aA na a.ac) (by cases A8 <;> cases VA <;> rfl) (by cases A8 <;> cases VA <;> simp [go_sem, gv, q25]) ?_
    refine act_normL (by simp only [Act.put, List.setIfInBounds_toArray, List.set_cons_zero, List.set_cons_succ]; rfl) ?_
    refine wpL_sym ((!A8) && (!VA)) (.int .i64 (na : Int)) (by cases A8 <;> cases VA <;> rfl) (by cases A8 <;> cases VA <;> simp [go_sem, gv]) ?_
    refine act_normL (by simp only [Act.put, List.setIfInBounds_toArray, List.set_cons_zero, List.set_cons_succ]; rfl) ?_
    refine wpL_sym ((!A8) && (!VA)) (.bool X9) (by cases A8 <;> cases VA <;> rfl) (by cases A8 <;> cases VA <;> simp [go_sem, gv, hX9, gX9]) ?_
    refine act_normL (by simp only [Act.put, List.setIfInBounds_toArray, List.set_cons_zero, List.set_cons_succ]; rfl) ?_
    refine wpL_sym ((!A8) && (!VA)) (.bool X9) (by cases A8 <;> cases VA <;> rfl) (by cases A8 <;> cases VA <;> simp [go_sem, gv]) ?_
    refine act_normL (by simp only [Act.put, List.setIfInBounds_toArray, List.set_cons_zero, List.set_cons_succ]; rfl) ?_
    refine wpL_sym (((!A8) && (!VA)) && (!X9)) (.pointer (some ⟨w.heap.size, 26, none⟩)) (by cases A8 <;> cases VA <;> cases X9 <;> rfl) (by cases A8 <;> cases VA <;> cases X9 <;> simp [go_sem, gv]) ?_
    refine act_normL (by simp only [Act.put, List.setIfInBounds_toArray, List.set_cons_zero, List.set_cons_succ]; rfl) ?_
    refine wpL_sym (((!A8) && (!VA)) && (!X9)) (.int .u64 y26) (by cases A8 <;> cases VA <;> cases X9 <;> rfl) (by cases A8 <;> cases VA <;> cases X9 <;> simp [go_sem, gv, q26]) ?_
    refine act_normL (by simp only [Act.put, List.setIfInBounds_toArray, List.set_cons_zero, List.set_cons_succ]; rfl) ?_
    refine wpL_sym (((!A8) && (!VA)) && (!X9)) (.bool Y9) (by cases A8 <;> cases VA <;> cases X9 <;> rfl) (by cases A8 <;> cases VA <;> cases X9 <;> simp [go_sem, gv, hY9]) ?_
    refine act_normL (by simp only [Act.put, List.setIfInBounds_toArray, List.set_cons_zero, List.set_cons_succ]; rfl) ?_
    refine wpL_sym ((!A8) && (!VA)) (.bool (X9 || Y9)) (by cases A8 <;> cases VA <;> rfl) (by cases A8 <;> cases VA <;> cases X9 <;> simp [go_sem, gv]) ?_
    refine act_normL (by simp only [Act.put, List.setIfInBounds_toArray, List.set_cons_zero, List.set_cons_succ]; rfl) ?_
    refine wpL_sym (!A8) (.bool ((!VA) && (X9 || Y9))) (by cases A8 <;> rfl) (by cases A8 <;> cases VA <;> simp [go_sem, gv]) ?_
    refine act_normL (by simp only [Act.put, List.setIfInBounds_toArray, List.set_cons_zero, List.set_cons_succ]; rfl) ?_
    refine wpL_val (.bool (A8 || ((!VA) && (X9 || Y9)))) rfl (by cases A8 <;> simp [go_sem, gv]) ?_
    refine act_normL (by simp only [Act.put, List.setIfInBounds_toArray, List.set_cons_zero, List.set_cons_succ]; rfl) ?_
    generalize hA9 : (A8 || ((!VA) && (X9 || Y9))) = A9
    have DA9 := Lib.hid hA9
    clear hA9
    refine wpL_val (.bool A9) rfl (by simp [go_sem, gv]) ?_
    refine act_normL (by simp only [Act.put, List.setIfInBounds_toArray, List.set_cons_zero, List.set_cons_succ]; rfl) ?_
    refine wpL_sym (!A9) (.string s) (by cases A9 <;> rfl) (by cases A9 <;> simp [go_sem, gv]) ?_
    refine act_normL (by simp only [Act.put, List.setIfInBounds_toArray, List.set_cons_zero, List.set_cons_succ]; rfl) ?_
    refine wpL_sym (!A9) (.bool (!SE)) (by cases A9 <;> rfl) (by cases A9 <;> simp [go_sem, gv, T69.out, N69.out]) ?_
    refine act_normL (by simp only [Act.put, List.setIfInBounds_toArray, List.set_cons_zero, List.set_cons_succ]; rfl) ?_
    refine wpL_sym (!A9) (.bool (!SE)) (by cases A9 <;> rfl) (by cases A9 <;> simp [go_sem, gv]) ?_
    refine act_normL (by simp only [Act.put, List.setIfInBounds_toArray, List.set_cons_zero, List.set_cons_succ]; rfl) ?_
    refine wpL_sym ((!A9) && (!SE)) (.bool VE) (by cases A9 <;> cases SE <;> rfl) (by cases A9 <;> cases SE <;> simp [go_sem, gv]) ?_
    refine act_normL (by simp only [Act.put, List.setIfInBounds_toArray, List.set_cons_zero, List.set_cons_succ]; rfl) ?_
    refine wpL_sym (!A9) (.bool ((!SE) && VE)) (by cases A9 <;> rfl) (by cases A9 <;> cases SE <;> simp [go_sem, gv]) ?_
    refine act_normL (by simp only [Act.put, List.setIfInBounds_toArray, List.set_cons_zero, List.set_cons_succ]; rfl) ?_
    refine wpL_val (.bool (A9 || ((!SE) && VE))) rfl (by cases A9 <;> simp [go_sem, gv]) ?_
    refine act_normL (by simp only [Act.put, List.setIfInBounds_toArray, List.set_cons_zero, List.set_cons_succ]; rfl) ?_
    generalize hAZ : (A9 || ((!SE) && VE)) = AZ
    have DAZ := Lib.hid hAZ
    clear hAZ
    refine wpL_val (.bool AZ) rfl (by simp [go_sem, gv]) ?_
    refine act_normL (by simp only [Act.put, List.setIfInBounds_toArray, List.set_cons_zero, List.set_cons_succ]; rfl) ?_
    go_wp2_with fail
    have hz : AZ = res := by rw [HF.out, ← DAZ.out, ← DA9.out, ← DA8.out, ← DA7.out, ← DA6.out, ← DA5.out, ← DA4.out, ← DA3.out, ← DA2.out, ← DA1.out, ← DVE.out, ← DVD.out, ← DVO.out, ← DVI.out, ← DVA.out]
    clear HF
    go_ret
    exact ⟨by rw [hz]; rfl, HBEL.out⟩
end

section
open Go.RowKit
set_option linter.unusedVariables false

set_option maxRecDepth 10000 in
set_option maxHeartbeats 2000000 in
theorem ranges_in (b off len c : Nat) (l : List (Nat × Nat)) (w : World) (hb : b < w.heap.size) (hl : l.length = len) (h0 : 0 < len) (hlen : len ≤ 140737488355328)
    (hc : ∀ i x, l[i]? = some x → w.cell? ⟨b, off + i * 2, none⟩ = some (.int .u64 (x.1 : Int)) ∧ w.cell? ⟨b, off + i * 2 + 1, none⟩ = some (.int .u64 (x.2 : Int))) :
    Calls Tryd.prog 22 #[.slice (some ⟨b, off, none⟩) len c] w (AcksTold l w) := by
  have HL := Lib.hid hl
  have HC := Lib.hid hc
  have HNE : Hid (l ≠ []) := fun e => by rw [e] at hl; simp at hl; omega
  clear hl hc
  go_enter Tryd.func22, Tryd.ntmps22
  go_wp2
  go_loopw [3, 4] (fun v i wr => ∃ (ok : Bool) (k : Nat), k ≤ len ∧ v = .bool ok ∧ i = .int .i64 k ∧ Hid ((ok = true → ∀ j, j < k → okR l j) ∧ (ok = false → ¬ OkR l)) ∧ Below w.heap.size w wr) (fun _ i _ => len - (intOf i).toNat)
  case atStart => exact ⟨true, 0, Nat.zero_le _, rfl, rfl, Lib.hid ⟨fun _ j hj => by omega, fun h => by cases h⟩, Below.refl _ _⟩
  case round =>
    obtain ⟨ok, k, hk, rfl, rfl, hok, hbk⟩ := hrel
    cases ok
    · have HNO : Hid (¬ OkR l) := hok.out.2 rfl
      clear hok
      by_cases hlt : k < len
      · have d1 : decide ((k : Int) < (len : Int)) = true := decide_eq_true (by omega)
        go_wp2
        go_ret
        exact ⟨fun h => absurd h.1 HNO.out, fun _ => rfl, hbk⟩
      · have d1 : decide ((k : Int) < (len : Int)) = false := decide_eq_false (by omega)
        go_wp2
        go_ret
        exact ⟨fun h => absurd h.1 HNO.out, fun _ => rfl, hbk⟩
    by_cases hlt : k < len
    · have d1 : decide ((k : Int) < (len : Int)) = true := decide_eq_true (by omega)
      have HK : Hid (∀ j, j < k → okR l j) := hok.out.1 rfl
      clear hok
      obtain ⟨x, hx⟩ : ∃ x, l[k]? = some x := ⟨_, List.getElem?_eq_getElem (by rw [HL.out]; exact hlt)⟩
      have hc1 := (hbk.cell (p := ⟨b, off + k * 2, none⟩) hb).trans (HC.out k x hx).1
      have hc2 := (hbk.cell (p := ⟨b, off + k * 2 + 1, none⟩) hb).trans (HC.out k x hx).2
      have HX := Lib.hid hx
      clear hx
      by_cases h1 : x.1 < x.2
      rotate_left
      · have t1 : decide ((x.1 : Int) < (x.2 : Int)) = false := decide_eq_false (by omega)

        have HNO : Hid (¬ OkR l) := fun h => h1 (h k x HX.out).1
        rcases Nat.eq_zero_or_pos k with h00 | h00
        · subst h00
          simp only [Nat.zero_mul, Nat.add_zero] at hc1 hc2
          go_wp2
          go_quiet (fail)
          go_wp2
          go_roundw
          case rel => exact ⟨false, 1, by omega, rfl, rfl, Lib.hid ⟨fun h => (by cases h), fun _ => HNO.out⟩, below_drewN hbk _⟩
          case measure => simp [intOf]; omega
        · have d3 : decide ((k : Int) > 0) = true := decide_eq_true (by omega)
          go_wp2
          go_quiet (fail)
          go_wp2
          go_quiet (fail)
          go_wp2
          go_roundw
          case rel => exact ⟨false, k + 1, by omega, rfl, by go_num, Lib.hid ⟨fun h => (by cases h), fun _ => HNO.out⟩, below_drewN hbk _⟩
          case measure => simp [intOf]; omega
      have t1 : decide ((x.1 : Int) < (x.2 : Int)) = true := decide_eq_true (by omega)
      by_cases h2 : x.2 ≤ 4611686018427387904
      rotate_left
      · have t2 : decide ((x.2 : Int) ≤ 4611686018427387904) = false := decide_eq_false (by omega)

        have HNO : Hid (¬ OkR l) := fun h => h2 (h k x HX.out).2.1
        rcases Nat.eq_zero_or_pos k with h00 | h00
        · subst h00
          simp only [Nat.zero_mul, Nat.add_zero] at hc1 hc2
          go_wp2
          go_quiet (fail)
          go_wp2
          go_roundw
          case rel => exact ⟨false, 1, by omega, rfl, rfl, Lib.hid ⟨fun h => (by cases h), fun _ => HNO.out⟩, below_drewN hbk _⟩
          case measure => simp [intOf]; omega
        · have d3 : decide ((k : Int) > 0) = true := decide_eq_true (by omega)
          go_wp2
          go_quiet (fail)
          go_wp2
          go_quiet (fail)
          go_wp2
          go_roundw
          case rel => exact ⟨false, k + 1, by omega, rfl, by go_num, Lib.hid ⟨fun h => (by cases h), fun _ => HNO.out⟩, below_drewN hbk _⟩
          case measure => simp [intOf]; omega
      have t2 : decide ((x.2 : Int) ≤ 4611686018427387904) = true := decide_eq_true (by omega)
      rcases Nat.eq_zero_or_pos k with h00 | h00
      · subst h00
        simp only [Nat.zero_mul, Nat.add_zero] at hc1 hc2
        go_wp2
        go_quiet (fail)
        go_wp2
        go_roundw
        case rel => exact ⟨true, 1, by omega, rfl, rfl, Lib.hid ⟨fun _ i hi z hz => by
              obtain rfl : i = 0 := by omega
              rw [HX.out] at hz
              obtain rfl := Option.some.inj hz
              exact ⟨h1, h2, fun y h0 => absurd h0 (by omega)⟩, fun h => (by cases h)⟩, below_drewN hbk _⟩
        case measure => simp [intOf]; omega
      · obtain ⟨j, rfl⟩ : ∃ j, k = j + 1 := ⟨k - 1, by omega⟩
        obtain ⟨y, hy⟩ : ∃ y, l[j]? = some y := ⟨_, List.getElem?_eq_getElem (by rw [HL.out]; omega)⟩
        have hy2 := (hbk.cell (p := ⟨b, off + j * 2 + 1, none⟩) hb).trans (HC.out j y hy).2
        have HY := Lib.hid hy
        have hj : j < len := by omega
        have w1 : IntKind.i64.wrap (j : Int) = (j : Int) := IntWalk.i64_in _ (by omega)
        clear hy h00
        by_cases h3 : y.2 < x.1
        · have t3 : decide ((x.1 : Int) > (y.2 : Int)) = true := decide_eq_true (by omega)
          go_wp2
          go_quiet (fail)
          go_wp2
          go_quiet (fail)
          go_wp2
          go_roundw
          case rel => exact ⟨true, j + 1 + 1, by omega, rfl, by go_num, Lib.hid ⟨fun _ i hi => by
                rcases Nat.lt_or_ge i (j + 1) with hlt' | hge
                · exact HK.out i hlt'
                · obtain rfl : i = j + 1 := by omega
                  exact fun z hz => by
                    rw [HX.out] at hz
                    obtain rfl := Option.some.inj hz
                    exact ⟨h1, h2, fun y' _ hy' => by
                      rw [show j + 1 - 1 = j by omega, HY.out] at hy'
                      obtain rfl := Option.some.inj hy'
                      exact h3⟩, fun h => (by cases h)⟩, below_drewN hbk _⟩
          case measure => simp [intOf]; omega
        · have t3 : decide ((x.1 : Int) > (y.2 : Int)) = false := decide_eq_false (by omega)
          have HNO : Hid (¬ OkR l) := fun h => absurd ((h (j + 1) x HX.out).2.2 y (by omega) (by rw [show j + 1 - 1 = j by omega]; exact HY.out)) h3
          go_wp2
          go_quiet (fail)
          go_wp2
          go_quiet (fail)
          go_wp2
          go_roundw
          case rel => exact ⟨false, j + 1 + 1, by omega, rfl, by go_num, Lib.hid ⟨fun h => (by cases h), fun _ => HNO.out⟩, below_drewN hbk _⟩
          case measure => simp [intOf]; omega
    · obtain rfl : k = len := by omega
      have d1 : decide ((k : Int) < (k : Int)) = false := decide_eq_false (by omega)
      have HA : Hid (OkR l) := fun i x hx => hok.out.1 rfl i (by have := (List.getElem?_eq_some_iff.1 hx).1; have := HL.out; omega) x hx
      clear hok
      go_wp2
      go_ret
      exact ⟨fun _ => rfl, fun h => absurd ⟨HA.out, HNE.out⟩ h, hbk⟩

set_option maxRecDepth 10000 in
set_option maxHeartbeats 400000 in
theorem ranges_empty (A : Option Addr) (c : Nat) (w : World) : Calls Tryd.prog 22 #[.slice A 0 c] w fun e w' => e = .returned (.bool false) ∧ w = w' := by
  go_enter Tryd.func22, Tryd.ntmps22
  go_wp2
  refine wp_loop_rounds 1 ?_
  rw [rounds_succ]
  go_wp2
  go_ret
  exact ⟨rfl, rfl⟩

theorem ranges_any (A : Option Addr) (len c : Nat) (l : List (Nat × Nat)) (w : World) (B : Nat) (hl : l.length = len) (hlen : len ≤ 140737488355328) (hr : Sr w B A l) (hB : B ≤ w.heap.size) :
    Calls Tryd.prog 22 #[.slice A len c] w (AcksTold l w) := by
  by_cases h0 : l = []
  · subst h0
    simp only [List.length_nil] at hl
    subst hl
    refine (ranges_empty A c w).mono ?_
    rintro e w' ⟨rfl, rfl⟩
    exact ⟨fun h => absurd rfl h.2, fun _ => rfl, Below.refl _ _⟩
  · obtain ⟨b, off, rfl, hb, hc⟩ := hr h0
    exact ranges_in b off len c l w (by omega) hl (by rw [← hl]; exact List.length_pos_iff.2 h0) hlen hc
end

section
open Go.RowKit
set_option linter.unusedVariables false

theorem formL_len (k : Nat) : (formL k).length ≤ 100 := by
  unfold formL
  split <;> simp

set_option maxRecDepth 100000 in
set_option maxHeartbeats 8000000 in
theorem refmay_any (R : Array Value) (f : PF) (a : SA) (w : World) (B : Nat) (hR : RowIs R f a) (hf : FrAt w B f a) (hB : B ≤ w.heap.size) :
    Calls Tryd.prog 8 #[.agg R] w (Told (MayR f) w) := by
  have hsz := hR.size
  have hw0 : Wh (w.alloc (.cells R 32)) w.heap.size 32 R := Wh.new w _ R
  have hb0 : Below w.heap.size w (w.alloc (.cells R 32)) := (Below.refl _ _).alloc (Nat.le_refl _) _
  have HI : Hid ((Tryd.prog.info? 32).map (·.size) = some R.size) := by rw [hsz]; exact info_frame
  have HM : Hid (MayR f = (formK f.kind = true ∧ spareB f (strV (formL f.kind)).toList (formL f.kind) = false ∧ SmallR f ∧ KindR f)) := rfl
  have HP := Lib.hid (form_any f.kind)
  have HS := Lib.hid (fun w => spare_any R f a (formL f.kind) w hR hf.tok (formL_len _))
  have HRA := Lib.hid (fun (w1 : World) (h : Below w.heap.size w w1) (hz : w.heap.size ≤ w1.heap.size) => ranges_any a.aA f.acks.length a.ac f.acks w1 B rfl hf.al (hf.acks.below (h.mono hB)) (Nat.le_trans hB hz))
  have HDL := Lib.hid hf.dl
  have HCL := Lib.hid hf.cl
  have HW := Lib.hid hw0
  have HB := Lib.hid hb0
  have HR := Lib.hid hR
  have c0' : (w.alloc (.cells R 32)).cell? ⟨w.heap.size, 0, none⟩ = some (.int .u64 (f.kind : Int)) := (hw0.cell 0).trans hR.kind
  generalize formL f.kind = fl at *
  generalize strV fl = s at *
  clear hsz hR hf hw0 hb0 hB
  go_enter Tryd.func8, Tryd.ntmps8
  go_upto_region 1 with fail
  generalize w.alloc (.cells R 32) = w0 at *
  go_wp2_with fail
  refine (HP.out _).mono ?_
  rintro e w' ⟨rfl, rfl⟩
  cases hb : formK f.kind
  all_goals
    have HBT := Lib.hid hb
    clear hb
  · go_wp2
    go_ret
    exact ⟨fun h => by rw [HM.out, HBT.out] at h; exact absurd h.1 (by simp), fun _ => rfl, HB.out⟩
  · go_wp2_with (refine wpList_load_any 32 (.tmp 1) rfl rfl w.heap.size rfl _ R _ HW.out Tryd.underlying32 rfl HI.out ?_)
    clear c0'
    refine (HS.out _).mono ?_
    rintro e w1 ⟨rfl, hb1⟩
    have HW1 := Lib.hid (HW.out.below hb1 HW.out.lt)
    have HB1 := Lib.hid (HB.out.trans (hb1.mono HB.out.size))
    clear hb1
    cases ho : spareB f s.toList fl
    rotate_left
    · have HO1 := Lib.hid ho
      clear ho
      go_wp2
      go_ret
      exact ⟨fun h => by rw [HM.out, HO1.out] at h; exact absurd h.2.1 (by simp), fun _ => rfl, HB1.out⟩
    have HO1 := Lib.hid ho
    clear ho
    have c0 := (HW1.out.cell 0).trans HR.out.kind
    have c1 := (HW1.out.cell 1).trans HR.out.id
    have c2 := (HW1.out.cell 2).trans HR.out.off
    have c3 := (HW1.out.cell 3).trans HR.out.max
    have c4 := (HW1.out.cell 4).trans HR.out.code
    have c5 := (HW1.out.cell 5).trans HR.out.n
    have c7 := (HW1.out.cell 7).trans HR.out.data
    have c8 := (HW1.out.cell 8).trans HR.out.cid
    have c25 := (HW1.out.cell 25).trans HR.out.acks
    have c26 := (HW1.out.cell 26).trans HR.out.delay
    have c27 := (HW1.out.cell 27).trans HR.out.e0
    have c28 := (HW1.out.cell 28).trans HR.out.e1
    have c29 := (HW1.out.cell 29).trans HR.out.e2
    by_cases s_id : f.id ≤ 4611686018427387903
    rotate_left
    · have t_id : decide ((f.id : Int) > 4611686018427387903) = true := decide_eq_true (by omega)
      have SN : Hid (¬ f.id ≤ 4611686018427387903) := s_id
      clear s_id
      go_wp2_with fail
      go_ret
      exact ⟨fun h => by rw [HM.out] at h; exact absurd h.2.2.1.1 SN.out, fun _ => rfl, HB1.out⟩
    have t_id : decide ((f.id : Int) > 4611686018427387903) = false := decide_eq_false (by omega)
    have S_id : Hid (f.id ≤ 4611686018427387903) := s_id
    clear s_id
    by_cases s_off : f.off ≤ 4611686018427387903
    rotate_left
    · have t_off : decide ((f.off : Int) > 4611686018427387903) = true := decide_eq_true (by omega)
      have SN : Hid (¬ f.off ≤ 4611686018427387903) := s_off
      clear s_off
      go_wp2_with fail
      go_ret
      exact ⟨fun h => by rw [HM.out] at h; exact absurd h.2.2.1.2.1 SN.out, fun _ => rfl, HB1.out⟩
    have t_off : decide ((f.off : Int) > 4611686018427387903) = false := decide_eq_false (by omega)
    have S_off : Hid (f.off ≤ 4611686018427387903) := s_off
    clear s_off
    by_cases s_max : f.max ≤ 4611686018427387903
    rotate_left
    · have t_max : decide ((f.max : Int) > 4611686018427387903) = true := decide_eq_true (by omega)
      have SN : Hid (¬ f.max ≤ 4611686018427387903) := s_max
      clear s_max
      go_wp2_with fail
      go_ret
      exact ⟨fun h => by rw [HM.out] at h; exact absurd h.2.2.1.2.2.1 SN.out, fun _ => rfl, HB1.out⟩
    have t_max : decide ((f.max : Int) > 4611686018427387903) = false := decide_eq_false (by omega)
    have S_max : Hid (f.max ≤ 4611686018427387903) := s_max
    clear s_max
    by_cases s_code : f.code ≤ 4611686018427387903
    rotate_left
    · have t_code : decide ((f.code : Int) > 4611686018427387903) = true := decide_eq_true (by omega)
      have SN : Hid (¬ f.code ≤ 4611686018427387903) := s_code
      clear s_code
      go_wp2_with fail
      go_ret
      exact ⟨fun h => by rw [HM.out] at h; exact absurd h.2.2.1.2.2.2.1 SN.out, fun _ => rfl, HB1.out⟩
    have t_code : decide ((f.code : Int) > 4611686018427387903) = false := decide_eq_false (by omega)
    have S_code : Hid (f.code ≤ 4611686018427387903) := s_code
    clear s_code
    by_cases s_delay : f.delay ≤ 4611686018427387903
    rotate_left
    · have t_delay : decide ((f.delay : Int) > 4611686018427387903) = true := decide_eq_true (by omega)
      have SN : Hid (¬ f.delay ≤ 4611686018427387903) := s_delay
      clear s_delay
      go_wp2_with fail
      go_ret
      exact ⟨fun h => by rw [HM.out] at h; exact absurd h.2.2.1.2.2.2.2.1 SN.out, fun _ => rfl, HB1.out⟩
    have t_delay : decide ((f.delay : Int) > 4611686018427387903) = false := decide_eq_false (by omega)
    have S_delay : Hid (f.delay ≤ 4611686018427387903) := s_delay
    clear s_delay
    by_cases s_e0 : f.e0 ≤ 4611686018427387903
    rotate_left
    · have t_e0 : decide ((f.e0 : Int) > 4611686018427387903) = true := decide_eq_true (by omega)
      have SN : Hid (¬ f.e0 ≤ 4611686018427387903) := s_e0
      clear s_e0
      go_wp2_with fail
      go_ret
      exact ⟨fun h => by rw [HM.out] at h; exact absurd h.2.2.1.2.2.2.2.2.1 SN.out, fun _ => rfl, HB1.out⟩
    have t_e0 : decide ((f.e0 : Int) > 4611686018427387903) = false := decide_eq_false (by omega)
    have S_e0 : Hid (f.e0 ≤ 4611686018427387903) := s_e0
    clear s_e0
    by_cases s_e1 : f.e1 ≤ 4611686018427387903
    rotate_left
    · have t_e1 : decide ((f.e1 : Int) > 4611686018427387903) = true := decide_eq_true (by omega)
      have SN : Hid (¬ f.e1 ≤ 4611686018427387903) := s_e1
      clear s_e1
      go_wp2_with fail
      go_ret
      exact ⟨fun h => by rw [HM.out] at h; exact absurd h.2.2.1.2.2.2.2.2.2.1 SN.out, fun _ => rfl, HB1.out⟩
    have t_e1 : decide ((f.e1 : Int) > 4611686018427387903) = false := decide_eq_false (by omega)
    have S_e1 : Hid (f.e1 ≤ 4611686018427387903) := s_e1
    clear s_e1
    by_cases s_e2 : f.e2 ≤ 4611686018427387903
    rotate_left
    · have t_e2 : decide ((f.e2 : Int) > 4611686018427387903) = true := decide_eq_true (by omega)
      have SN : Hid (¬ f.e2 ≤ 4611686018427387903) := s_e2
      clear s_e2
      go_wp2_with fail
      go_ret
      exact ⟨fun h => by rw [HM.out] at h; exact absurd h.2.2.1.2.2.2.2.2.2.2 SN.out, fun _ => rfl, HB1.out⟩
    have t_e2 : decide ((f.e2 : Int) > 4611686018427387903) = false := decide_eq_false (by omega)
    have S_e2 : Hid (f.e2 ≤ 4611686018427387903) := s_e2
    clear s_e2
    have HSM : Hid (SmallR f) := ⟨S_id.out, S_off.out, S_max.out, S_code.out, S_delay.out, S_e0.out, S_e1.out, S_e2.out⟩
    go_upto_region 5 with fail
    clear t_id t_off t_max t_code t_delay t_e0 t_e1 t_e2 c26 c27 c28 c29
    have z1 : IntKind.u64.wrap (f.data.length : Int) = (f.data.length : Int) := IntWalk.u64_in _ (by have := HDL.out; omega)
    have z2 : IntKind.u64.wrap (4611686018427387903 - (f.data.length : Int)) = 4611686018427387903 - (f.data.length : Int) := IntWalk.u64_in _ (by have := HDL.out; omega)
    have z3 : decide ((f.data.length : Int) ≤ 4611686018427387903) = true := decide_eq_true (by have := HDL.out; omega)
    by_cases hk : f.kind = 0
    · have HK := Lib.hid hk
      have t : ((f.kind : Int) == 0) = true := by rw [hk]; rfl
      have HKR : Hid (KindR f ↔ (0 < f.n ∧ f.n ≤ 65536)) := by show _ ↔ _; simp [KindR, hk]
      clear hk
      by_cases q0 : 0 < f.n
      rotate_left
      · have t0 : decide ((f.n : Int) > 0) = false := decide_eq_false (by have := HDL.out; omega)
        have Q0 := Lib.hid q0
        clear q0
        go_wp2_with fail
        go_ret
        exact ⟨fun h => by rw [HM.out] at h; have h2 := HKR.out.1 h.2.2.2; have := HDL.out; have := HCL.out; have := Q0.out; omega, fun _ => rfl, HB1.out⟩
      have t0 : decide ((f.n : Int) > 0) = true := decide_eq_true (by have := HDL.out; omega)
      have Q0 := Lib.hid q0
      clear q0
      by_cases q1 : f.n ≤ 65536
      rotate_left
      · have t1 : decide ((f.n : Int) ≤ 65536) = false := decide_eq_false (by have := HDL.out; omega)
        have Q1 := Lib.hid q1
        clear q1
        go_wp2_with fail
        go_ret
        exact ⟨fun h => by rw [HM.out] at h; have h2 := HKR.out.1 h.2.2.2; have := HDL.out; have := HCL.out; have := Q1.out; omega, fun _ => rfl, HB1.out⟩
      have t1 : decide ((f.n : Int) ≤ 65536) = true := decide_eq_true (by have := HDL.out; omega)
      have Q1 := Lib.hid q1
      clear q1
      go_wp2_with fail
      go_ret
      exact ⟨fun _ => rfl, fun h => absurd (by rw [HM.out]; exact ⟨HBT.out, HO1.out, HSM.out, HKR.out.2 (by have := HDL.out; have := HCL.out; have := Q0.out; have := Q1.out; omega)⟩) h, HB1.out⟩
    have t_0 : ((f.kind : Int) == 0) = false := by rw [beq_eq_false_iff_ne]; omega
    have g0 : Hid (f.kind ≠ 0) := hk
    clear hk
    by_cases hk : f.kind = 2
    · have HK := Lib.hid hk
      have t : ((f.kind : Int) == 2) = true := by rw [hk]; rfl
      have HKR : Hid (KindR f ↔ (OkR f.acks ∧ f.acks ≠ [])) := by show _ ↔ _; simp [KindR, hk]
      clear hk
      go_wp2_with fail
      refine (HRA.out w1 HB1.out HB1.out.size).mono ?_
      rintro e w3 ⟨hy, hno, hb3⟩
      have HB3 := Lib.hid (HB1.out.trans (hb3.mono HB1.out.size))
      clear hb3
      by_cases hQ : OkR f.acks ∧ f.acks ≠ []
      · obtain rfl := hy hQ
        have HQ := Lib.hid hQ
        clear hy hno hQ
        go_wp2_with fail
        go_ret
        exact ⟨fun _ => rfl, fun h => absurd (by rw [HM.out]; exact ⟨HBT.out, HO1.out, HSM.out, HKR.out.2 HQ.out⟩) h, HB3.out⟩
      · obtain rfl := hno hQ
        have HQ := Lib.hid hQ
        clear hy hno hQ
        go_wp2_with fail
        go_ret
        exact ⟨fun h => by rw [HM.out] at h; exact absurd (HKR.out.1 h.2.2.2) HQ.out, fun _ => rfl, HB3.out⟩
    have t_2 : ((f.kind : Int) == 2) = false := by rw [beq_eq_false_iff_ne]; omega
    have g2 : Hid (f.kind ≠ 2) := hk
    clear hk
    by_cases hk : f.kind = 3
    · have HK := Lib.hid hk
      have t : ((f.kind : Int) == 3) = true := by rw [hk]; rfl
      have HKR : Hid (KindR f ↔ (OkR f.acks ∧ f.acks ≠ [])) := by show _ ↔ _; simp [KindR, hk]
      clear hk
      go_wp2_with fail
      refine (HRA.out w1 HB1.out HB1.out.size).mono ?_
      rintro e w3 ⟨hy, hno, hb3⟩
      have HB3 := Lib.hid (HB1.out.trans (hb3.mono HB1.out.size))
      clear hb3
      by_cases hQ : OkR f.acks ∧ f.acks ≠ []
      · obtain rfl := hy hQ
        have HQ := Lib.hid hQ
        clear hy hno hQ
        go_wp2_with fail
        go_ret
        exact ⟨fun _ => rfl, fun h => absurd (by rw [HM.out]; exact ⟨HBT.out, HO1.out, HSM.out, HKR.out.2 HQ.out⟩) h, HB3.out⟩
      · obtain rfl := hno hQ
        have HQ := Lib.hid hQ
        clear hy hno hQ
        go_wp2_with fail
        go_ret
        exact ⟨fun h => by rw [HM.out] at h; exact absurd (HKR.out.1 h.2.2.2) HQ.out, fun _ => rfl, HB3.out⟩
    have t_3 : ((f.kind : Int) == 3) = false := by rw [beq_eq_false_iff_ne]; omega
    have g3 : Hid (f.kind ≠ 3) := hk
    clear hk
    by_cases hk : f.kind = 6
    · have HK := Lib.hid hk
      have t : ((f.kind : Int) == 6) = true := by rw [hk]; rfl
      have HKR : Hid (KindR f ↔ (f.data.length ≤ 4611686018427387903 ∧ f.off ≤ 4611686018427387903 - f.data.length)) := by show _ ↔ _; simp [KindR, hk]
      clear hk
      by_cases q0 : f.off ≤ 4611686018427387903 - f.data.length
      rotate_left
      · have t0 : decide ((f.off : Int) ≤ 4611686018427387903 - (f.data.length : Int)) = false := decide_eq_false (by have := HDL.out; omega)
        have Q0 := Lib.hid q0
        clear q0
        go_wp2_with fail
        go_ret
        exact ⟨fun h => by rw [HM.out] at h; have h2 := HKR.out.1 h.2.2.2; have := HDL.out; have := HCL.out; have := Q0.out; omega, fun _ => rfl, HB1.out⟩
      have t0 : decide ((f.off : Int) ≤ 4611686018427387903 - (f.data.length : Int)) = true := decide_eq_true (by have := HDL.out; omega)
      have Q0 := Lib.hid q0
      clear q0
      go_wp2_with fail
      go_ret
      exact ⟨fun _ => rfl, fun h => absurd (by rw [HM.out]; exact ⟨HBT.out, HO1.out, HSM.out, HKR.out.2 (by have := HDL.out; have := HCL.out; have := Q0.out; omega)⟩) h, HB1.out⟩
    have t_6 : ((f.kind : Int) == 6) = false := by rw [beq_eq_false_iff_ne]; omega
    have g6 : Hid (f.kind ≠ 6) := hk
    clear hk
    by_cases hk : f.kind = 8
    · have HK := Lib.hid hk
      have t : ((f.kind : Int) == 8) = true := by rw [hk]; rfl
      have HKR : Hid (KindR f ↔ (f.data.length ≤ 4611686018427387903 ∧ f.off ≤ 4611686018427387903 - f.data.length)) := by show _ ↔ _; simp [KindR, hk]
      clear hk
      by_cases q0 : f.off ≤ 4611686018427387903 - f.data.length
      rotate_left
      · have t0 : decide ((f.off : Int) ≤ 4611686018427387903 - (f.data.length : Int)) = false := decide_eq_false (by have := HDL.out; omega)
        have Q0 := Lib.hid q0
        clear q0
        go_wp2_with fail
        go_ret
        exact ⟨fun h => by rw [HM.out] at h; have h2 := HKR.out.1 h.2.2.2; have := HDL.out; have := HCL.out; have := Q0.out; omega, fun _ => rfl, HB1.out⟩
      have t0 : decide ((f.off : Int) ≤ 4611686018427387903 - (f.data.length : Int)) = true := decide_eq_true (by have := HDL.out; omega)
      have Q0 := Lib.hid q0
      clear q0
      go_wp2_with fail
      go_ret
      exact ⟨fun _ => rfl, fun h => absurd (by rw [HM.out]; exact ⟨HBT.out, HO1.out, HSM.out, HKR.out.2 (by have := HDL.out; have := HCL.out; have := Q0.out; omega)⟩) h, HB1.out⟩
    have t_8 : ((f.kind : Int) == 8) = false := by rw [beq_eq_false_iff_ne]; omega
    have g8 : Hid (f.kind ≠ 8) := hk
    clear hk
    by_cases hk : f.kind = 7
    · have HK := Lib.hid hk
      have t : ((f.kind : Int) == 7) = true := by rw [hk]; rfl
      have HKR : Hid (KindR f ↔ (0 < f.data.length)) := by show _ ↔ _; simp [KindR, hk]
      clear hk
      by_cases q0 : 0 < f.data.length
      rotate_left
      · have t0 : decide ((f.data.length : Int) > 0) = false := decide_eq_false (by have := HDL.out; omega)
        have t0b : decide (0 < f.data.length) = false := decide_eq_false (by omega)
        have Q0 := Lib.hid q0
        clear q0
        go_wp2_with fail
        go_ret
        exact ⟨fun h => by rw [HM.out] at h; have h2 := HKR.out.1 h.2.2.2; have := HDL.out; have := HCL.out; have := Q0.out; omega, fun _ => rfl, HB1.out⟩
      have t0 : decide ((f.data.length : Int) > 0) = true := decide_eq_true (by have := HDL.out; omega)
      have t0b : decide (0 < f.data.length) = true := decide_eq_true (by omega)
      have Q0 := Lib.hid q0
      clear q0
      go_wp2_with fail
      go_ret
      exact ⟨fun _ => rfl, fun h => absurd (by rw [HM.out]; exact ⟨HBT.out, HO1.out, HSM.out, HKR.out.2 (by have := HDL.out; have := HCL.out; have := Q0.out; omega)⟩) h, HB1.out⟩
    have t_7 : ((f.kind : Int) == 7) = false := by rw [beq_eq_false_iff_ne]; omega
    have g7 : Hid (f.kind ≠ 7) := hk
    clear hk
    by_cases hk : f.kind = 18
    · have HK := Lib.hid hk
      have t : ((f.kind : Int) == 18) = true := by rw [hk]; rfl
      have HKR : Hid (KindR f ↔ (f.max ≤ 1152921504606846976)) := by show _ ↔ _; simp [KindR, hk]
      clear hk
      by_cases q0 : f.max ≤ 1152921504606846976
      rotate_left
      · have t0 : decide ((f.max : Int) ≤ 1152921504606846976) = false := decide_eq_false (by have := HDL.out; omega)
        have Q0 := Lib.hid q0
        clear q0
        go_wp2_with fail
        go_ret
        exact ⟨fun h => by rw [HM.out] at h; have h2 := HKR.out.1 h.2.2.2; have := HDL.out; have := HCL.out; have := Q0.out; omega, fun _ => rfl, HB1.out⟩
      have t0 : decide ((f.max : Int) ≤ 1152921504606846976) = true := decide_eq_true (by have := HDL.out; omega)
      have Q0 := Lib.hid q0
      clear q0
      go_wp2_with fail
      go_ret
      exact ⟨fun _ => rfl, fun h => absurd (by rw [HM.out]; exact ⟨HBT.out, HO1.out, HSM.out, HKR.out.2 (by have := HDL.out; have := HCL.out; have := Q0.out; omega)⟩) h, HB1.out⟩
    have t_18 : ((f.kind : Int) == 18) = false := by rw [beq_eq_false_iff_ne]; omega
    have g18 : Hid (f.kind ≠ 18) := hk
    clear hk
    by_cases hk : f.kind = 19
    · have HK := Lib.hid hk
      have t : ((f.kind : Int) == 19) = true := by rw [hk]; rfl
      have HKR : Hid (KindR f ↔ (f.max ≤ 1152921504606846976)) := by show _ ↔ _; simp [KindR, hk]
      clear hk
      by_cases q0 : f.max ≤ 1152921504606846976
      rotate_left
      · have t0 : decide ((f.max : Int) ≤ 1152921504606846976) = false := decide_eq_false (by have := HDL.out; omega)
        have Q0 := Lib.hid q0
        clear q0
        go_wp2_with fail
        go_ret
        exact ⟨fun h => by rw [HM.out] at h; have h2 := HKR.out.1 h.2.2.2; have := HDL.out; have := HCL.out; have := Q0.out; omega, fun _ => rfl, HB1.out⟩
      have t0 : decide ((f.max : Int) ≤ 1152921504606846976) = true := decide_eq_true (by have := HDL.out; omega)
      have Q0 := Lib.hid q0
      clear q0
      go_wp2_with fail
      go_ret
      exact ⟨fun _ => rfl, fun h => absurd (by rw [HM.out]; exact ⟨HBT.out, HO1.out, HSM.out, HKR.out.2 (by have := HDL.out; have := HCL.out; have := Q0.out; omega)⟩) h, HB1.out⟩
    have t_19 : ((f.kind : Int) == 19) = false := by rw [beq_eq_false_iff_ne]; omega
    have g19 : Hid (f.kind ≠ 19) := hk
    clear hk
    by_cases hk : f.kind = 22
    · have HK := Lib.hid hk
      have t : ((f.kind : Int) == 22) = true := by rw [hk]; rfl
      have HKR : Hid (KindR f ↔ (f.max ≤ 1152921504606846976)) := by show _ ↔ _; simp [KindR, hk]
      clear hk
      by_cases q0 : f.max ≤ 1152921504606846976
      rotate_left
      · have t0 : decide ((f.max : Int) ≤ 1152921504606846976) = false := decide_eq_false (by have := HDL.out; omega)
        have Q0 := Lib.hid q0
        clear q0
        go_wp2_with fail
        go_ret
        exact ⟨fun h => by rw [HM.out] at h; have h2 := HKR.out.1 h.2.2.2; have := HDL.out; have := HCL.out; have := Q0.out; omega, fun _ => rfl, HB1.out⟩
      have t0 : decide ((f.max : Int) ≤ 1152921504606846976) = true := decide_eq_true (by have := HDL.out; omega)
      have Q0 := Lib.hid q0
      clear q0
      go_wp2_with fail
      go_ret
      exact ⟨fun _ => rfl, fun h => absurd (by rw [HM.out]; exact ⟨HBT.out, HO1.out, HSM.out, HKR.out.2 (by have := HDL.out; have := HCL.out; have := Q0.out; omega)⟩) h, HB1.out⟩
    have t_22 : ((f.kind : Int) == 22) = false := by rw [beq_eq_false_iff_ne]; omega
    have g22 : Hid (f.kind ≠ 22) := hk
    clear hk
    by_cases hk : f.kind = 23
    · have HK := Lib.hid hk
      have t : ((f.kind : Int) == 23) = true := by rw [hk]; rfl
      have HKR : Hid (KindR f ↔ (f.max ≤ 1152921504606846976)) := by show _ ↔ _; simp [KindR, hk]
      clear hk
      by_cases q0 : f.max ≤ 1152921504606846976
      rotate_left
      · have t0 : decide ((f.max : Int) ≤ 1152921504606846976) = false := decide_eq_false (by have := HDL.out; omega)
        have Q0 := Lib.hid q0
        clear q0
        go_wp2_with fail
        go_ret
        exact ⟨fun h => by rw [HM.out] at h; have h2 := HKR.out.1 h.2.2.2; have := HDL.out; have := HCL.out; have := Q0.out; omega, fun _ => rfl, HB1.out⟩
      have t0 : decide ((f.max : Int) ≤ 1152921504606846976) = true := decide_eq_true (by have := HDL.out; omega)
      have Q0 := Lib.hid q0
      clear q0
      go_wp2_with fail
      go_ret
      exact ⟨fun _ => rfl, fun h => absurd (by rw [HM.out]; exact ⟨HBT.out, HO1.out, HSM.out, HKR.out.2 (by have := HDL.out; have := HCL.out; have := Q0.out; omega)⟩) h, HB1.out⟩
    have t_23 : ((f.kind : Int) == 23) = false := by rw [beq_eq_false_iff_ne]; omega
    have g23 : Hid (f.kind ≠ 23) := hk
    clear hk
    by_cases hk : f.kind = 24
    · have HK := Lib.hid hk
      have t : ((f.kind : Int) == 24) = true := by rw [hk]; rfl
      have HKR : Hid (KindR f ↔ (0 < f.cid.length ∧ f.cid.length ≤ 20 ∧ f.max ≤ f.id)) := by show _ ↔ _; simp [KindR, hk]
      clear hk
      by_cases q0 : 0 < f.cid.length
      rotate_left
      · have t0 : decide ((f.cid.length : Int) > 0) = false := decide_eq_false (by have := HDL.out; omega)
        have Q0 := Lib.hid q0
        clear q0
        go_wp2_with fail
        go_ret
        exact ⟨fun h => by rw [HM.out] at h; have h2 := HKR.out.1 h.2.2.2; have := HDL.out; have := HCL.out; have := Q0.out; omega, fun _ => rfl, HB1.out⟩
      have t0 : decide ((f.cid.length : Int) > 0) = true := decide_eq_true (by have := HDL.out; omega)
      have Q0 := Lib.hid q0
      clear q0
      by_cases q1 : f.cid.length ≤ 20
      rotate_left
      · have t1 : decide ((f.cid.length : Int) ≤ 20) = false := decide_eq_false (by have := HDL.out; omega)
        have Q1 := Lib.hid q1
        clear q1
        go_wp2_with fail
        go_ret
        exact ⟨fun h => by rw [HM.out] at h; have h2 := HKR.out.1 h.2.2.2; have := HDL.out; have := HCL.out; have := Q1.out; omega, fun _ => rfl, HB1.out⟩
      have t1 : decide ((f.cid.length : Int) ≤ 20) = true := decide_eq_true (by have := HDL.out; omega)
      have Q1 := Lib.hid q1
      clear q1
      by_cases q2 : f.max ≤ f.id
      rotate_left
      · have t2 : decide ((f.max : Int) ≤ (f.id : Int)) = false := decide_eq_false (by have := HDL.out; omega)
        have t2b : decide (f.max ≤ f.id) = false := decide_eq_false (by omega)
        have Q2 := Lib.hid q2
        clear q2
        go_wp2_with fail
        go_ret
        exact ⟨fun h => by rw [HM.out] at h; have h2 := HKR.out.1 h.2.2.2; have := HDL.out; have := HCL.out; have := Q2.out; omega, fun _ => rfl, HB1.out⟩
      have t2 : decide ((f.max : Int) ≤ (f.id : Int)) = true := decide_eq_true (by have := HDL.out; omega)
      have t2b : decide (f.max ≤ f.id) = true := decide_eq_true (by omega)
      have Q2 := Lib.hid q2
      clear q2
      go_wp2_with fail
      go_ret
      exact ⟨fun _ => rfl, fun h => absurd (by rw [HM.out]; exact ⟨HBT.out, HO1.out, HSM.out, HKR.out.2 (by have := HDL.out; have := HCL.out; have := Q0.out; have := Q1.out; have := Q2.out; omega)⟩) h, HB1.out⟩
    have t_24 : ((f.kind : Int) == 24) = false := by rw [beq_eq_false_iff_ne]; omega
    have g24 : Hid (f.kind ≠ 24) := hk
    clear hk
    by_cases hk : f.kind = 26
    · have HK := Lib.hid hk
      have t : ((f.kind : Int) == 26) = true := by rw [hk]; rfl
      have HKR : Hid (KindR f ↔ (f.data.length = 8)) := by show _ ↔ _; simp [KindR, hk]
      clear hk
      by_cases q0 : f.data.length = 8
      rotate_left
      · have t0 : ((f.data.length : Int) == 8) = false := by rw [beq_eq_false_iff_ne]; omega
        have Q0 := Lib.hid q0
        clear q0
        go_wp2_with fail
        go_ret
        exact ⟨fun h => by rw [HM.out] at h; have h2 := HKR.out.1 h.2.2.2; have := HDL.out; have := HCL.out; have := Q0.out; omega, fun _ => rfl, HB1.out⟩
      have t0 : ((f.data.length : Int) == 8) = true := by rw [q0]; rfl
      have Q0 := Lib.hid q0
      clear q0
      go_wp2_with fail
      go_ret
      exact ⟨fun _ => rfl, fun h => absurd (by rw [HM.out]; exact ⟨HBT.out, HO1.out, HSM.out, HKR.out.2 (by have := HDL.out; have := HCL.out; have := Q0.out; omega)⟩) h, HB1.out⟩
    have t_26 : ((f.kind : Int) == 26) = false := by rw [beq_eq_false_iff_ne]; omega
    have g26 : Hid (f.kind ≠ 26) := hk
    clear hk
    by_cases hk : f.kind = 27
    · have HK := Lib.hid hk
      have t : ((f.kind : Int) == 27) = true := by rw [hk]; rfl
      have HKR : Hid (KindR f ↔ (f.data.length = 8)) := by show _ ↔ _; simp [KindR, hk]
      clear hk
      by_cases q0 : f.data.length = 8
      rotate_left
      · have t0 : ((f.data.length : Int) == 8) = false := by rw [beq_eq_false_iff_ne]; omega
        have Q0 := Lib.hid q0
        clear q0
        go_wp2_with fail
        go_ret
        exact ⟨fun h => by rw [HM.out] at h; have h2 := HKR.out.1 h.2.2.2; have := HDL.out; have := HCL.out; have := Q0.out; omega, fun _ => rfl, HB1.out⟩
      have t0 : ((f.data.length : Int) == 8) = true := by rw [q0]; rfl
      have Q0 := Lib.hid q0
      clear q0
      go_wp2_with fail
      go_ret
      exact ⟨fun _ => rfl, fun h => absurd (by rw [HM.out]; exact ⟨HBT.out, HO1.out, HSM.out, HKR.out.2 (by have := HDL.out; have := HCL.out; have := Q0.out; omega)⟩) h, HB1.out⟩
    have t_27 : ((f.kind : Int) == 27) = false := by rw [beq_eq_false_iff_ne]; omega
    have g27 : Hid (f.kind ≠ 27) := hk
    clear hk
    have HKR : Hid (KindR f) := by show KindR f; simp [KindR, g0.out, g2.out, g3.out, g6.out, g8.out, g7.out, g18.out, g19.out, g22.out, g23.out, g24.out, g26.out, g27.out]
    go_wp2_with fail
    go_ret
    exact ⟨fun _ => rfl, fun h => absurd (by rw [HM.out]; exact ⟨HBT.out, HO1.out, HSM.out, HKR.out⟩) h, HB1.out⟩
end

end Go.Proofs.YtkkojhkglcigmaaDoor
