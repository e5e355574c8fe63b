/-
  The walk through hostlerref02.SameAll, of frames that are one.
-/
import Derived.Test.YtnbeplfceflnjaaDoorFSame
import Derived.Test.YtnbeplfceflnjaaDoorFApp
namespace Go.Proofs.YtnbeplfceflnjaaDoor
open Go.RowKit
set_option linter.unusedVariables false

set_option maxRecDepth 100000 in
set_option maxHeartbeats 3200000 in
theorem samefall_yes (A1 A2 : Option Addr) (len c1 c2 : Nat) (l1 l2 : List (PF × SA)) (w : World) (he : l1.map (·.1) = l2.map (·.1)) (hl : l1.length = len) (h1 : Sf w w.heap.size A1 l1) (h2 : Sf w w.heap.size A2 l2) (hm : len ≤ 140737488355328) :
    Calls Tryd.prog 18 #[.slice A1 len c1, .slice A2 len c2] w fun e w' => e = .returned (.bool true) ∧ Below w.heap.size w w' := by
  have HL := Lib.hid hl
  have HL2 : Hid (l2.length = len) := by have h := congrArg List.length he; rw [List.length_map, List.length_map] at h; exact h.symm.trans hl
  have HE := Lib.hid he
  have H1 := Lib.hid h1
  have H2 := Lib.hid h2
  clear he hl h1 h2
  go_enter Tryd.func18, Tryd.ntmps18
  go_wp2_with fail
  go_loopw [5, 6] (fun v5 i wr => v5 = .bool true ∧ ∃ k : Nat, k ≤ len ∧ i = .int .i64 (k : Int) ∧ Hid (Below w.heap.size w wr)) (fun _ i _ => len - (intOf i).toNat)
  case atStart => exact ⟨rfl, 0, Nat.zero_le _, rfl, Lib.hid (Below.refl _ _)⟩
  case round =>
    obtain ⟨rfl, k, hk, rfl, hb⟩ := hrel
    by_cases hlt : k < len
    · have d1 : decide ((k : Int) < (len : Int)) = true := decide_eq_true (by omega)
      obtain ⟨x, hx⟩ : ∃ x, l1[k]? = some x := ⟨_, List.getElem?_eq_getElem (by rw [HL.out]; exact hlt)⟩
      obtain ⟨y, hy⟩ : ∃ y, l2[k]? = some y := ⟨_, List.getElem?_eq_getElem (by rw [HL2.out]; exact hlt)⟩
      have hxy : x.1 = y.1 := by
        have h := congrArg (·[k]?) HE.out
        simpa [hx, hy] using h
      obtain ⟨b1, o1, rfl, hb1, hc1⟩ := H1.out (by rintro rfl; simp at hx)
      obtain ⟨b2, o2, rfl, hb2, hc2⟩ := H2.out (by rintro rfl; simp at hy)
      obtain ⟨R1, hR1⟩ : ∃ R1 : List Value, R1 = rowF x.1 x.2 := ⟨_, rfl⟩
      obtain ⟨R2, hR2⟩ : ∃ R2 : List Value, R2 = rowF y.1 y.2 := ⟨_, rfl⟩
      have hr1 : wr.rangeAt b1 (o1 + k * 30) R1 := fun j v hv => (hb.out.cell (p := ⟨b1, o1 + k * 30 + j, none⟩) (by show b1 < _; omega)).trans ((hc1 k x hx).1 j v (by rw [← hR1]; exact hv))
      have hr2 : wr.rangeAt b2 (o2 + k * 30) R2 := fun j v hv => (hb.out.cell (p := ⟨b2, o2 + k * 30 + j, none⟩) (by show b2 < _; omega)).trans ((hc2 k y hy).1 j v (by rw [← hR2]; exact hv))
      have hf1 := (hc1 k x hx).2.below hb.out
      have hf2 := (hc2 k y hy).2.below hb.out
      have hI1 : (Tryd.prog.info? 32).map (·.size) = some R1.length := by rw [hR1, rowF_length x.2 hf1.tok]; exact info_frame
      have hI2 : (Tryd.prog.info? 32).map (·.size) = some R2.length := by rw [hR2, rowF_length y.2 hf2.tok]; exact info_frame
      have hg1 : FrAt wr.drew wr.drew.heap.size x.1 x.2 := { hf1 with data := hf1.data.keep hb.out.size (fun _ _ => rfl), cid := hf1.cid.keep hb.out.size (fun _ _ => rfl), acks := hf1.acks.keep hb.out.size (fun _ _ => rfl) }
      have hg2 : FrAt wr.drew wr.drew.heap.size x.1 y.2 := hxy ▸ ({ hf2 with data := hf2.data.keep hb.out.size (fun _ _ => rfl), cid := hf2.cid.keep hb.out.size (fun _ _ => rfl), acks := hf2.acks.keep hb.out.size (fun _ _ => rfl) } : FrAt wr.drew wr.drew.heap.size y.1 y.2)
      have HSM := Lib.hid (samef_yes x.1 x.2 y.2 R1.toArray R2.toArray wr.drew (by rw [hR1]) (by rw [hR2, hxy]) hg1 hg2)
      have HI1 := Lib.hid hI1
      have HI2 := Lib.hid hI2
      clear hI1 hI2 hf1 hf2 hg1 hg2 hR1 hR2 hc1 hc2 hx hy hxy
      go_upto_region 5 with fail
      have hS0 : (fun w' : World => w'.rangeAt b1 (o1 + k * 30) R1 ∧ w'.rangeAt b2 (o2 + k * 30) R2) wr.drew := ⟨hr1, hr2⟩
      refine wp_region_held_drew (S := fun w' : World => w'.rangeAt b1 (o1 + k * 30) R1 ∧ w'.rangeAt b2 (o2 + k * 30) R2) (by kernel_rfl) hS0 (fun _ => ?_)
      refine wpAnyH_take (i := 0) (v := .slice (some ⟨b1, o1, none⟩) len c1) (List.getElem?_toArray.trans rfl) (by kernel_rfl) (by kernel_rfl) (by kernel_rfl) (fun _ _ _ h => h) (.inl ⟨rfl, fun w' hS => rfl⟩) hS0 ?_
      refine act_norm (by simp only [Act.put, List.setIfInBounds_toArray, List.set_cons_zero, List.set_cons_succ]; rfl) ?_
      refine wpAnyH_take (i := 1) (v := .int .i64 (k : Int)) (List.getElem?_toArray.trans rfl) (by kernel_rfl) (by kernel_rfl) (by kernel_rfl) (fun _ _ _ h => h) (.inl ⟨rfl, fun w' hS => rfl⟩) hS0 ?_
      refine act_norm (by simp only [Act.put, List.setIfInBounds_toArray, List.set_cons_zero, List.set_cons_succ]; rfl) ?_
      refine wpAnyH_take (i := 2) (v := .pointer (some ⟨b1, o1 + k * 30, none⟩)) (List.getElem?_toArray.trans rfl) (by kernel_rfl) (by kernel_rfl) (by kernel_rfl) (fun _ _ _ h => h) (.inl ⟨rfl, fun w' hS => by simp [go_sem, hlt]⟩) hS0 ?_
      refine act_norm (by simp only [Act.put, List.setIfInBounds_toArray, List.set_cons_zero, List.set_cons_succ]; rfl) ?_
      refine wpAnyH_take (i := 3) (List.getElem?_toArray.trans rfl) (by kernel_rfl) (by kernel_rfl) (by kernel_rfl) (fun _ _ _ h => h) (yieldsIf_load_mid (by rfl) 32 (.tmp 23) rfl b1 (o1 + k * 30) rfl R1 _ (fun w' hS => hS.1) Tryd.underlying32 rfl HI1.out) hS0 ?_
      refine act_norm (by simp only [Act.put, List.setIfInBounds_toArray, List.set_cons_zero, List.set_cons_succ]; rfl) ?_
      refine wpAnyH_take (i := 4) (v := .slice (some ⟨b2, o2, none⟩) len c2) (List.getElem?_toArray.trans rfl) (by kernel_rfl) (by kernel_rfl) (by kernel_rfl) (fun _ _ _ h => h) (.inl ⟨rfl, fun w' hS => rfl⟩) hS0 ?_
      refine act_norm (by simp only [Act.put, List.setIfInBounds_toArray, List.set_cons_zero, List.set_cons_succ]; rfl) ?_
      refine wpAnyH_take (i := 5) (v := .int .i64 (k : Int)) (List.getElem?_toArray.trans rfl) (by kernel_rfl) (by kernel_rfl) (by kernel_rfl) (fun _ _ _ h => h) (.inl ⟨rfl, fun w' hS => rfl⟩) hS0 ?_
      refine act_norm (by simp only [Act.put, List.setIfInBounds_toArray, List.set_cons_zero, List.set_cons_succ]; rfl) ?_
      refine wpAnyH_take (i := 6) (v := .pointer (some ⟨b2, o2 + k * 30, none⟩)) (List.getElem?_toArray.trans rfl) (by kernel_rfl) (by kernel_rfl) (by kernel_rfl) (fun _ _ _ h => h) (.inl ⟨rfl, fun w' hS => by simp [go_sem, hlt]⟩) hS0 ?_
      refine act_norm (by simp only [Act.put, List.setIfInBounds_toArray, List.set_cons_zero, List.set_cons_succ]; rfl) ?_
      refine wpAnyH_take (i := 7) (List.getElem?_toArray.trans rfl) (by kernel_rfl) (by kernel_rfl) (by kernel_rfl) (fun _ _ _ h => h) (yieldsIf_load_mid (by rfl) 32 (.tmp 27) rfl b2 (o2 + k * 30) rfl R2 _ (fun w' hS => hS.2) Tryd.underlying32 rfl HI2.out) hS0 ?_
      refine act_norm (by simp only [Act.put, List.setIfInBounds_toArray, List.set_cons_zero, List.set_cons_succ]; rfl) ?_
      refine wpAnyH_ready (rs := [8]) (by kernel_rfl) (by simp) (AllReadyH.cons (List.getElem?_toArray.trans rfl) (fun K' hK => ?_) AllReadyH.nil)
      refine wanted_go rfl ?_
      go_simp
      refine HSM.out.mono ?_
      rintro e w4 ⟨rfl, hb4⟩
      have hS1 : (fun w' : World => w'.rangeAt b1 (o1 + k * 30) R1 ∧ w'.rangeAt b2 (o2 + k * 30) R2) w4 := by
        have hz := hb.out.size
        exact ⟨fun j v hv => (hb4.cell (p := ⟨b1, o1 + k * 30 + j, none⟩) (by show b1 < wr.heap.size; omega)).trans (hS0.1 j v hv), fun j v hv => (hb4.cell (p := ⟨b2, o2 + k * 30 + j, none⟩) (by show b2 < wr.heap.size; omega)).trans (hS0.2 j v hv)⟩
      have HB4 := Lib.hid (hb.out.drew.trans (hb4.mono hb.out.size))
      refine hK.out _ _ hS1 (fun hS2 => ?_)
      clear hK K' hS1 hS0 hr1 hr2 hb4 HSM
      refine wpAnyH_ready (rs := [9]) (by kernel_rfl) (by simp) (AllReadyH.cons (List.getElem?_toArray.trans rfl) (fun K' hK => ?_) AllReadyH.nil)
      refine wanted_go rfl ?_
      go_simp
      refine hK.out _ _ hS2 (fun _ => ?_)
      clear hK K'
      refine wpAnyH_done (by kernel_rfl) ?_ _
      go_wp2_with fail
      refine ⟨⟨rfl, k + 1, by omega, by congr 1, HB4⟩, ?_⟩
      simp [intOf]
      omega
    · have d1 : decide ((k : Int) < (len : Int)) = false := decide_eq_false (by omega)
      go_wp2_with fail
      go_ret
      exact ⟨rfl, hb.out⟩

end Go.Proofs.YtnbeplfceflnjaaDoor
