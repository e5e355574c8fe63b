/-
  avoid: the window grows by a Unit for each window of bytes that came. Made by tools/gen_rnmeth.py.
-/
import Derived.Test.YtmidlgojknfooaaRnGone
namespace Go.Proofs.Ytmidlgojknfooaa
open Go.RowKit
set_option linter.unusedVariables false

set_option maxRecDepth 10000 in
set_option maxHeartbeats 2000000 in
theorem avoid_any (w : World) (g n : Nat) (s : NS) (h : NAt w g s) (hw : s.wi ≤ mU) (hw0 : 0 < s.wi) (ha : s.ac ≤ mU) (hn : n ≤ mU) :
    Calls Try.prog 18 #[.pointer (some ⟨g, 0, none⟩), .int .u64 (n : Int)] w fun e w' => ∃ W A, AvR s.wi s.ac n W A ∧ NGave g { s with wi := W, ac := A } w e w' := by
  have HA := Lib.hid h
  have HI0 : Hid (s.wi ≤ mU ∧ 0 < s.wi ∧ s.ac ≤ mU ∧ n ≤ mU ∧ ∀ W' A', AvR s.wi s.ac n W' A' → AvR s.wi s.ac n W' A') := Lib.hid ⟨hw, hw0, ha, hn, fun _ _ h => h⟩
  clear h hw hw0 ha hn
  go_enter Try.func18, Try.ntmps18
  go_wp2
  go_loopw [1] (fun s1 wr => ∃ W A z : Nat, s1 = .int .u64 (z : Int) ∧ Hid (NAt wr g { s with wi := W, ac := A }) ∧ Hid (w.grownBy wr (some g)) ∧ Hid (W ≤ mU ∧ 0 < W ∧ A ≤ mU ∧ z ≤ mU ∧ ∀ W' A', AvR W A z W' A' → AvR s.wi s.ac n W' A')) (fun s1 wr => (intOf s1).toNat + (intOf ((wr.cell? ⟨g, 5, none⟩).getD (.int .u64 0))).toNat)
  case atStart => exact ⟨s.wi, s.ac, n, rfl, HA, Lib.hid (grown_below (Below.refl _ _)), HI0⟩
  case round =>
    obtain ⟨W, A, z, rfl, HR, HG, HI⟩ := hrel
    clear HA HI0
    obtain ⟨o, ho⟩ : ∃ o, o = min A W := ⟨_, rfl⟩
    obtain ⟨d, hd⟩ : ∃ d, d = W - o := ⟨_, rfl⟩
    have c0 : wr.cell? ⟨g, 0, none⟩ = some (.int .u64 (W : Int)) := HR.out.c0
    have c5 : wr.cell? ⟨g, 5, none⟩ = some (.int .u64 (A : Int)) := HR.out.c5
    have f5 := HR.out.fz 5
    have HM : Hid ((if W < A then (W : Int) else (A : Int)) = (o : Int)) := Lib.hid (by split <;> omega)
    have ed : IntKind.u64.wrap ((W : Int) - (o : Int)) = (d : Int) := by rw [IntKind.wrap_u64]; have := HI.out.1; unfold mU at this; omega
    go_upto_region 0 with (fail)
    go_quiet (fail)
    rw [HM.out]
    clear HM
    by_cases hlt : z < d
    · have HAZ : Hid (A + z < W) := Lib.hid (by omega)
      have hAv : AvR s.wi s.ac n W (A + z) := HI.out.2.2.2.2 _ _ (.stop HAZ.out)
      have ew : IntKind.u64.wrap ((A : Int) + (z : Int)) = (A : Int) + (z : Int) := by rw [IntKind.wrap_u64]; have := HI.out.1; have := HAZ.out; unfold mU at *; omega
      have HV := Lib.hid hAv
      have HR1 := HR.out.below (below_drewN (Below.refl wr.heap.size wr) nq)
      have H5 : Hid (NAt ((wr.drewN nq).setCell ⟨g, 5, none⟩ (.int .u64 ((A : Int) + (z : Int)))) g { s with wi := W, ac := A + z }) := Lib.hid (HR1.set 5 _ rfl)
      have HG5 := Lib.hid (grown_trans (grown_trans HG.out (grown_below (row := some g) (below_drewN (Below.refl wr.heap.size wr) nq))) (grown_set _ g 5 (.int .u64 ((A : Int) + (z : Int)))))
      clear ho hd hAv HR1 HR HG HI HAZ
      go_wp2
      go_end0
      exact ⟨W, A + z, HV.out, rfl, HG5.out, H5.out⟩
    · obtain ⟨A2, hA2⟩ : ∃ A2, A2 = A - o := ⟨_, rfl⟩
      obtain ⟨z2, hz2⟩ : ∃ z2, z2 = z - d := ⟨_, rfl⟩
      obtain ⟨y, hy⟩ : ∃ y, y = mU - W := ⟨_, rfl⟩
      obtain ⟨u, hu⟩ : ∃ u, u = min 1200 y := ⟨_, rfl⟩
      obtain ⟨W2, hW2⟩ : ∃ W2, W2 = W + u := ⟨_, rfl⟩
      have HI2 : Hid (W2 ≤ mU ∧ 0 < W2 ∧ A2 ≤ mU ∧ z2 ≤ mU ∧ ∀ W' A', AvR W2 A2 z2 W' A' → AvR s.wi s.ac n W' A') := Lib.hid (by
        obtain ⟨h1, h2, h3, h4, h5⟩ := HI.out
        refine ⟨by omega, by omega, by omega, by omega, fun W' A' hr => h5 _ _ (.step (by omega) ?_)⟩
        rw [← ho, ← hd, ← hA2, ← hz2, ← hy, ← hu, ← hW2]
        exact hr)
      have HME : Hid (z2 + A2 < z + A) := Lib.hid (by have := HI.out.2.1; omega)
      have eA : IntKind.u64.wrap ((A : Int) - (o : Int)) = (A2 : Int) := by rw [IntKind.wrap_u64]; have := HI.out.2.2.1; unfold mU at this; omega
      have ez : IntKind.u64.wrap ((z : Int) - (d : Int)) = (z2 : Int) := by rw [IntKind.wrap_u64]; have := HI.out.2.2.2.1; unfold mU at this; omega
      have HY : Hid (IntKind.u64.wrap (18446744073709551615 - (W : Int)) = (y : Int)) := Lib.hid (by rw [IntKind.wrap_u64]; have := HI.out.1; unfold mU at this hy; omega)
      have HU : Hid ((if (y : Int) < 1200 then (y : Int) else 1200) = (u : Int)) := Lib.hid (by split <;> omega)
      have HW2 : Hid (IntKind.u64.wrap ((W : Int) + (u : Int)) = (W2 : Int)) := Lib.hid (by rw [IntKind.wrap_u64]; have := HI2.out.1; unfold mU at this; omega)
      have HR1 := HR.out.below (below_drewN (Below.refl wr.heap.size wr) nq)
      have H2 : Hid (NAt ((wr.drewN nq).setCell ⟨g, 5, none⟩ (.int .u64 (A2 : Int))) g { s with wi := W, ac := A2 }) := Lib.hid (HR1.set 5 _ rfl)
      have HG2 := Lib.hid (grown_trans (grown_trans HG.out (grown_below (row := some g) (below_drewN (Below.refl wr.heap.size wr) nq))) (grown_set _ g 5 (.int .u64 (A2 : Int))))
      clear ho hd hA2 hz2 hy hu hW2 HR HG HI HR1
      go_upto_region 4 with (fail)
      clear eA ez ed c0 f5 hlt
      generalize (wr.drewN nq).setCell ⟨g, 5, none⟩ (.int .u64 (A2 : Int)) = w2 at *
      have HR3 := Lib.hid (H2.out.below (Below.refl _ _).drew)
      have HG3 := Lib.hid (grown_trans HG2.out (grown_below (row := some g) (Below.refl w2.heap.size w2).drew))
      have f0 := HR3.out.fz 0
      have c0 : w2.drew.cell? ⟨g, 0, none⟩ = some (.int .u64 (W : Int)) := HR3.out.c0
      have H5 : Hid (NAt (w2.drew.setCell ⟨g, 0, none⟩ (.int .u64 (W2 : Int))) g { s with wi := W2, ac := A2 }) := Lib.hid (HR3.out.set 0 _ rfl)
      have HG5 := Lib.hid (grown_trans HG3.out (grown_set _ g 0 (.int .u64 (W2 : Int))))
      clear H2 HG2 HR3 HG3
      refine wp_region_held_drew (S := fun w' => True) (by kernel_rfl) trivial (fun hS0 => ?_)
      generalize w2.drew = w3 at *
      refine wpAnyH_take (i := 0) (v := .pointer (some ⟨g, 0, none⟩)) (List.getElem?_toArray.trans rfl) (by kernel_rfl) (by kernel_rfl) (by kernel_rfl) (fun _ _ _ h => h) (.inl ⟨rfl, fun w' hS => rfl⟩) trivial ?_
      refine act_normS (by simp only [Act.put, List.setIfInBounds_toArray, List.set_cons_zero, List.set_cons_succ]; rfl) ?_
      refine wpAnyH_take (i := 1) (v := .pointer (some ⟨g, 0, none⟩)) (List.getElem?_toArray.trans rfl) (by kernel_rfl) (by kernel_rfl) (by kernel_rfl) (fun _ _ _ h => h) (.inl ⟨rfl, fun w' hS => by simp [go_sem]⟩) trivial ?_
      refine act_normS (by simp only [Act.put, List.setIfInBounds_toArray, List.set_cons_zero, List.set_cons_succ]; rfl) ?_
      refine wpAnyH_take (i := 2) (v := .pointer (some ⟨g, 0, none⟩)) (List.getElem?_toArray.trans rfl) (by kernel_rfl) (by kernel_rfl) (by kernel_rfl) (fun _ _ _ h => h) (.inl ⟨rfl, fun w' hS => by simp [go_sem]⟩) trivial ?_
      refine act_normS (by simp only [Act.put, List.setIfInBounds_toArray, List.set_cons_zero, List.set_cons_succ]; rfl) ?_
      refine wpAnyH_take (i := 3) (v := .pointer (some ⟨g, 0, none⟩)) (List.getElem?_toArray.trans rfl) (by kernel_rfl) (by kernel_rfl) (by kernel_rfl) (fun _ _ _ h => h) (.inl ⟨rfl, fun w' hS => by simp [go_sem]⟩) trivial ?_
      refine act_normS (by simp only [Act.put, List.setIfInBounds_toArray, List.set_cons_zero, List.set_cons_succ]; rfl) ?_
      refine wpAnyH_take (i := 5) (v := .pointer (some ⟨g, 0, none⟩)) (List.getElem?_toArray.trans rfl) (by kernel_rfl) (by kernel_rfl) (by kernel_rfl) (fun _ _ _ h => h) (.inl ⟨rfl, fun w' hS => rfl⟩) trivial ?_
      refine act_normS (by simp only [Act.put, List.setIfInBounds_toArray, List.set_cons_zero, List.set_cons_succ]; rfl) ?_
      refine wpAnyH_take (i := 6) (v := .pointer (some ⟨g, 0, none⟩)) (List.getElem?_toArray.trans rfl) (by kernel_rfl) (by kernel_rfl) (by kernel_rfl) (fun _ _ _ h => h) (.inl ⟨rfl, fun w' hS => by simp [go_sem]⟩) trivial ?_
      refine act_normS (by simp only [Act.put, List.setIfInBounds_toArray, List.set_cons_zero, List.set_cons_succ]; rfl) ?_
      refine wpAnyH_take (i := 7) (v := .pointer (some ⟨g, 0, none⟩)) (List.getElem?_toArray.trans rfl) (by kernel_rfl) (by kernel_rfl) (by kernel_rfl) (fun _ _ _ h => h) (.inl ⟨rfl, fun w' hS => by simp [go_sem]⟩) trivial ?_
      refine act_normS (by simp only [Act.put, List.setIfInBounds_toArray, List.set_cons_zero, List.set_cons_succ]; rfl) ?_
      refine wpAnyH_take (i := 8) (v := .pointer (some ⟨g, 0, none⟩)) (List.getElem?_toArray.trans rfl) (by kernel_rfl) (by kernel_rfl) (by kernel_rfl) (fun _ _ _ h => h) (.inl ⟨rfl, fun w' hS => by simp [go_sem]⟩) trivial ?_
      refine act_normS (by simp only [Act.put, List.setIfInBounds_toArray, List.set_cons_zero, List.set_cons_succ]; rfl) ?_
      refine wpAnyH_ready (rs := [4, 9]) (by kernel_rfl) (by simp) (AllReadyH.cons (List.getElem?_toArray.trans rfl) (fun K' hK => ?_) (AllReadyH.cons (List.getElem?_toArray.trans rfl) (fun K' hK => ?_) AllReadyH.nil))
      · skip
        refine wanted_goS rfl ?_
        go_simp
        refine hK.out _ _ (trivial) (fun _ => ?_)
        clear hK K'
        refine wpAnyH_ready (rs := [9]) (by kernel_rfl) (by simp) (AllReadyH.cons (List.getElem?_toArray.trans rfl) (fun K' hK => ?_) AllReadyH.nil)
        refine wanted_goS rfl ?_
        go_simp
        refine hK.out _ _ (trivial) (fun _ => ?_)
        clear hK K'
        refine wpAnyH_take (i := 10) (v := .int .u64 (y : Int)) (List.getElem?_toArray.trans rfl) (by kernel_rfl) (by kernel_rfl) (by kernel_rfl) (fun _ _ _ h => h) (.inl ⟨rfl, fun w' hS => by simp [go_sem, HY.out]⟩) trivial ?_
        refine act_normS (by simp only [Act.put, List.setIfInBounds_toArray, List.set_cons_zero, List.set_cons_succ]; rfl) ?_
        refine wpAnyH_take (i := 11) (v := .int .u64 (u : Int)) (List.getElem?_toArray.trans rfl) (by kernel_rfl) (by kernel_rfl) (by kernel_rfl) (fun _ _ _ h => h) (.inl ⟨rfl, fun w' hS => by simp [go_sem, HU.out]⟩) trivial ?_
        refine act_normS (by simp only [Act.put, List.setIfInBounds_toArray, List.set_cons_zero, List.set_cons_succ]; rfl) ?_
        refine wpAnyH_take (i := 12) (v := .int .u64 (W2 : Int)) (List.getElem?_toArray.trans rfl) (by kernel_rfl) (by kernel_rfl) (by kernel_rfl) (fun _ _ _ h => h) (.inl ⟨rfl, fun w' hS => by simp [go_sem, HW2.out]⟩) trivial ?_
        refine act_normS (by simp only [Act.put, List.setIfInBounds_toArray, List.set_cons_zero, List.set_cons_succ]; rfl) ?_
        refine wpAnyH_take (i := 13) (v := .pointer (some ⟨g, 0, none⟩)) (List.getElem?_toArray.trans rfl) (by kernel_rfl) (by kernel_rfl) (by kernel_rfl) (fun _ _ _ h => h) (.inl ⟨rfl, fun w' hS => by simp [go_sem]⟩) trivial ?_
        refine act_normS (by simp only [Act.put, List.setIfInBounds_toArray, List.set_cons_zero, List.set_cons_succ]; rfl) ?_
        refine wpAnyH_take (i := 14) (v := .pointer (some ⟨g, 0, none⟩)) (List.getElem?_toArray.trans rfl) (by kernel_rfl) (by kernel_rfl) (by kernel_rfl) (fun _ _ _ h => h) (.inl ⟨rfl, fun w' hS => by simp [go_sem]⟩) trivial ?_
        refine act_normS (by simp only [Act.put, List.setIfInBounds_toArray, List.set_cons_zero, List.set_cons_succ]; rfl) ?_
        refine wpAnyH_take (i := 15) (v := .pointer (some ⟨g, 0, none⟩)) (List.getElem?_toArray.trans rfl) (by kernel_rfl) (by kernel_rfl) (by kernel_rfl) (fun _ _ _ h => h) (.inl ⟨rfl, fun w' hS => by simp [go_sem]⟩) trivial ?_
        refine act_normS (by simp only [Act.put, List.setIfInBounds_toArray, List.set_cons_zero, List.set_cons_succ]; rfl) ?_
        refine wpAnyH_ready (rs := [16]) (by kernel_rfl) (by simp) (AllReadyH.cons (List.getElem?_toArray.trans rfl) (fun K' hK => ?_) AllReadyH.nil)
        refine wanted_goS rfl ?_
        go_simp
        refine hK.out _ _ (trivial) (fun _ => ?_)
        clear hK K'
        refine wpAnyH_done (by kernel_rfl) ?_ _
        generalize w3.setCell ⟨g, 0, none⟩ (.int .u64 (W2 : Int)) = w5 at *
        clear HY HU HW2 f0 c0
        go_wp2
        go_roundw
        case rel => exact ⟨W2, A2, z2, rfl, H5, HG5, HI2⟩
        case measure => have h1 := H5.out.c5; have h2 := HME.out; simp [intOf, h1, c5]; omega
      · skip
        refine wanted_goS rfl ?_
        go_simp
        refine hK.out _ _ (trivial) (fun _ => ?_)
        clear hK K'
        refine wpAnyH_take (i := 10) (v := .int .u64 (y : Int)) (List.getElem?_toArray.trans rfl) (by kernel_rfl) (by kernel_rfl) (by kernel_rfl) (fun _ _ _ h => h) (.inl ⟨rfl, fun w' hS => by simp [go_sem, HY.out]⟩) trivial ?_
        refine act_normS (by simp only [Act.put, List.setIfInBounds_toArray, List.set_cons_zero, List.set_cons_succ]; rfl) ?_
        refine wpAnyH_take (i := 11) (v := .int .u64 (u : Int)) (List.getElem?_toArray.trans rfl) (by kernel_rfl) (by kernel_rfl) (by kernel_rfl) (fun _ _ _ h => h) (.inl ⟨rfl, fun w' hS => by simp [go_sem, HU.out]⟩) trivial ?_
        refine act_normS (by simp only [Act.put, List.setIfInBounds_toArray, List.set_cons_zero, List.set_cons_succ]; rfl) ?_
        refine wpAnyH_ready (rs := [4]) (by kernel_rfl) (by simp) (AllReadyH.cons (List.getElem?_toArray.trans rfl) (fun K' hK => ?_) AllReadyH.nil)
        refine wanted_goS rfl ?_
        go_simp
        refine hK.out _ _ (trivial) (fun _ => ?_)
        clear hK K'
        refine wpAnyH_take (i := 12) (v := .int .u64 (W2 : Int)) (List.getElem?_toArray.trans rfl) (by kernel_rfl) (by kernel_rfl) (by kernel_rfl) (fun _ _ _ h => h) (.inl ⟨rfl, fun w' hS => by simp [go_sem, HW2.out]⟩) trivial ?_
        refine act_normS (by simp only [Act.put, List.setIfInBounds_toArray, List.set_cons_zero, List.set_cons_succ]; rfl) ?_
        refine wpAnyH_take (i := 13) (v := .pointer (some ⟨g, 0, none⟩)) (List.getElem?_toArray.trans rfl) (by kernel_rfl) (by kernel_rfl) (by kernel_rfl) (fun _ _ _ h => h) (.inl ⟨rfl, fun w' hS => by simp [go_sem]⟩) trivial ?_
        refine act_normS (by simp only [Act.put, List.setIfInBounds_toArray, List.set_cons_zero, List.set_cons_succ]; rfl) ?_
        refine wpAnyH_take (i := 14) (v := .pointer (some ⟨g, 0, none⟩)) (List.getElem?_toArray.trans rfl) (by kernel_rfl) (by kernel_rfl) (by kernel_rfl) (fun _ _ _ h => h) (.inl ⟨rfl, fun w' hS => by simp [go_sem]⟩) trivial ?_
        refine act_normS (by simp only [Act.put, List.setIfInBounds_toArray, List.set_cons_zero, List.set_cons_succ]; rfl) ?_
        refine wpAnyH_take (i := 15) (v := .pointer (some ⟨g, 0, none⟩)) (List.getElem?_toArray.trans rfl) (by kernel_rfl) (by kernel_rfl) (by kernel_rfl) (fun _ _ _ h => h) (.inl ⟨rfl, fun w' hS => by simp [go_sem]⟩) trivial ?_
        refine act_normS (by simp only [Act.put, List.setIfInBounds_toArray, List.set_cons_zero, List.set_cons_succ]; rfl) ?_
        refine wpAnyH_ready (rs := [16]) (by kernel_rfl) (by simp) (AllReadyH.cons (List.getElem?_toArray.trans rfl) (fun K' hK => ?_) AllReadyH.nil)
        refine wanted_goS rfl ?_
        go_simp
        refine hK.out _ _ (trivial) (fun _ => ?_)
        clear hK K'
        refine wpAnyH_done (by kernel_rfl) ?_ _
        generalize w3.setCell ⟨g, 0, none⟩ (.int .u64 (W2 : Int)) = w5 at *
        clear HY HU HW2 f0 c0
        go_wp2
        go_roundw
        case rel => exact ⟨W2, A2, z2, rfl, H5, HG5, HI2⟩
        case measure => have h1 := H5.out.c5; have h2 := HME.out; simp [intOf, h1, c5]; omega

end Go.Proofs.Ytmidlgojknfooaa
