/-
  Sample: a later one. Made by tools/gen_rtsamp.py.
-/
import Derived.Test.YtoahannfpnkpkaaRtSamp0
import Derived.Test.YtoahannfpnkpkaaSpDraw
namespace Go.Proofs.Ytoahannfpnkpkaa
open Go.RowKit
set_option linter.unusedVariables false

/-- A field written. -/
theorem RAt.set {w : World} {g : Nat} {s s' : RS} (h : RAt w g s) (i : Nat) (v : Value) (hr : (rRow s).setIfInBounds i v = rRow s') : RAt (w.setCell ⟨g, i, none⟩ v) g s' := by
  have := Wh.put h i v
  rwa [hr] at this

/-- Its numbers are numbers of 64 bits. -/
structure RS.Fits (s : RS) : Prop where
  la : s.la ≤ 18446744073709551615
  mn : s.mn ≤ 18446744073709551615
  sm : s.sm ≤ 18446744073709551615
  va : s.va ≤ 18446744073709551615

set_option maxRecDepth 10000 in
set_option maxHeartbeats 2000000 in
theorem samp_later (w : World) (g l d : Nat) (s : RS) (h : RAt w g s) (hs : s.has = true) (hf : s.Fits) (hl : l ≤ 18446744073709551615) (hd : d ≤ 18446744073709551615) :
    Calls Try.prog 6 #[.pointer (some ⟨g, 0, none⟩), .int .u64 (l : Int), .int .u64 (d : Int)] w (RGave g (sampS s l d) w) := by
  have h0 := h.c0
  rw [hs] at h0
  have c1 := h.c1
  have f1 := h.fz 1
  have c2 := h.c2
  have f2 := h.fz 2
  obtain ⟨x, hx⟩ : ∃ x : Nat, x = min l mT := ⟨_, rfl⟩
  obtain ⟨y, hy⟩ : ∃ y : Nat, y = min d mT := ⟨_, rfl⟩
  obtain ⟨m, hm⟩ : ∃ m : Nat, m = min s.mn x := ⟨_, rfl⟩
  obtain ⟨a, ha⟩ : ∃ a : Nat, a = adjN m x y := ⟨_, rfl⟩
  obtain ⟨v, hv⟩ : ∃ v : Nat, v = meanN s.va (apartN s.sm a) 4 := ⟨_, rfl⟩
  obtain ⟨t, ht⟩ : ∃ t : Nat, t = meanN s.sm a 8 := ⟨_, rfl⟩
  have HX : Hid ((if (1099511627776 : Int) < (l : Int) then (1099511627776 : Int) else (l : Int)) = (x : Int)) := Lib.hid (by unfold mT at hx; split <;> omega)
  have HY : Hid ((if (1099511627776 : Int) < (d : Int) then (1099511627776 : Int) else (d : Int)) = (y : Int)) := Lib.hid (by unfold mT at hy; split <;> omega)
  have HM : Hid ((if x < s.mn then (x : Int) else (s.mn : Int)) = (m : Int)) := Lib.hid (by split <;> omega)
  have HB : Hid (x ≤ 1099511627776 ∧ y ≤ 1099511627776 ∧ m ≤ x) := Lib.hid (by unfold mT at hx hy; omega)
  have HAD : Hid (a = if m + y ≤ x then x - y else x) := Lib.hid ha
  have hax : a ≤ x := by rw [ha]; unfold adjN; split <;> omega
  have HAP : Hid (∀ w2, Calls Try.prog 11 #[.int .u64 (s.sm : Int), .int .u64 (a : Int)] w2 fun e w' => e = .returned (.int .u64 (apartN s.sm a : Int)) ∧ w2 = w') := Lib.hid (fun w2 => apart_any w2 s.sm a hf.sm (by have := HB.out; omega))
  have HMV : Hid (∀ w2, Calls Try.prog 10 #[.int .u64 (s.va : Int), .int .u64 (apartN s.sm a : Int), .int .u64 4] w2 fun e w' => e = .returned (.int .u64 (v : Int)) ∧ Below w2.heap.size w2 w') :=
    Lib.hid (fun w2 => by rw [hv]; exact mean4_any w2 s.va (apartN s.sm a) hf.va (apart_le hf.sm (by have := HB.out; omega)))
  have HMS : Hid (∀ w2, Calls Try.prog 10 #[.int .u64 (s.sm : Int), .int .u64 (a : Int), .int .u64 8] w2 fun e w' => e = .returned (.int .u64 (t : Int)) ∧ Below w2.heap.size w2 w') :=
    Lib.hid (fun w2 => by rw [ht]; exact mean8_any w2 s.sm a hf.sm (by have := HB.out; omega))
  have HSS : Hid (sampS s l d = ⟨true, x, m, t, v⟩) := Lib.hid (by unfold sampS; rw [hs, if_pos rfl, ← hx, ← hy, ← hm, ← ha, ← ht, ← hv])
  have H1 : RAt (w.setCell ⟨g, 1, none⟩ (.int .u64 (x : Int))) g { s with la := x } := h.set 1 _ rfl
  have H2 : RAt ((w.setCell ⟨g, 1, none⟩ (.int .u64 (x : Int))).setCell ⟨g, 2, none⟩ (.int .u64 (m : Int))) g { s with la := x, mn := m } := H1.set 2 _ rfl
  have HR2 : Hid (RAt ((w.setCell ⟨g, 1, none⟩ (.int .u64 (x : Int))).setCell ⟨g, 2, none⟩ (.int .u64 (m : Int))) g ⟨true, x, m, s.sm, s.va⟩) := Lib.hid (by rw [← hs]; exact H2)
  have HG2 : Hid (w.grownBy ((w.setCell ⟨g, 1, none⟩ (.int .u64 (x : Int))).setCell ⟨g, 2, none⟩ (.int .u64 (m : Int))) (some g)) := Lib.hid (grown_trans (grown_set _ _ _ _) (grown_set _ _ _ _))
  clear hx hy hm ha hv ht H1 H2 h hs hf hax hl hd
  generalize apartN s.sm a = p at *
  generalize hsm : s.sm = sm at *
  generalize hva : s.va = va at *
  clear hsm hva
  go_enter Try.func6, Try.ntmps6
  go_upto_region 4 with (fail)
  rw [HX.out, HY.out]
  clear HX HY h0
  go_upto_region 6 with (fail)
  rw [HM.out]
  clear HM c1 f1 c2 f2
  generalize (w.setCell ⟨g, 1, none⟩ (.int .u64 (x : Int))).setCell ⟨g, 2, none⟩ (.int .u64 (m : Int)) = w2 at *
  have c2 := HR2.out.c2
  simp only [] at c2
  have e1 : IntKind.u64.wrap ((m : Int) + (y : Int)) = (m : Int) + (y : Int) := by rw [IntKind.wrap_u64]; have := HB.out; omega
  have e2 : m + y ≤ x → IntKind.u64.wrap ((x : Int) - (y : Int)) = (x : Int) - (y : Int) := fun _ => by rw [IntKind.wrap_u64]; have := HB.out; omega
  by_cases hle : m + y ≤ x
  · have d1 : decide ((x : Int) ≥ (m : Int) + (y : Int)) = true := decide_eq_true (by omega)
    have HA : Hid ((x : Int) - (y : Int) = (a : Int)) := Lib.hid (by rw [HAD.out, if_pos hle]; omega)
    have e3 := e2 hle
    clear e2 hle
    go_upto_region 8 with (fail)
    clear e3 d1
    rw [HA.out]
    have HR3 := Lib.hid (HR2.out.below (Below.refl _ _).drew)
    have HG3 := Lib.hid (grown_trans HG2.out (grown_below (row := some g) (Below.refl w2.heap.size w2).drew))
    have hS : w2.drew.cell? ⟨g, 3, none⟩ = some (.int .u64 (sm : Int)) := HR3.out.c3
    refine wp_region_held_drew (S := fun w' => w'.cell? ⟨g, 3, none⟩ = some (.int .u64 (sm : Int))) (by kernel_rfl) hS (fun hS0 => ?_)
    clear hS HR2 HG2 HA c2 e1
    generalize w2.drew = w3 at *
    have c4 := HR3.out.c4
    simp only [] at c4
    refine wpAnyH_take (i := 0) (v := .pointer (some ⟨g, 0, none⟩)) (List.getElem?_toArray.trans rfl) (by kernel_rfl) (by kernel_rfl) (by kernel_rfl) (fun _ _ _ h => h) (.inl ⟨rfl, fun w' hS => rfl⟩) hS0 ?_
    refine act_normS (by simp only [Act.put, List.setIfInBounds_toArray, List.set_cons_zero, List.set_cons_succ]; rfl) ?_
    refine wpAnyH_take (i := 1) (v := .pointer (some ⟨g, 0, none⟩)) (List.getElem?_toArray.trans rfl) (by kernel_rfl) (by kernel_rfl) (by kernel_rfl) (fun _ _ _ h => h) (.inl ⟨rfl, fun w' hS => rfl⟩) hS0 ?_
    refine act_normS (by simp only [Act.put, List.setIfInBounds_toArray, List.set_cons_zero, List.set_cons_succ]; rfl) ?_
    refine wpAnyH_take (i := 2) (v := .pointer (some ⟨g, 0, none⟩)) (List.getElem?_toArray.trans rfl) (by kernel_rfl) (by kernel_rfl) (by kernel_rfl) (fun _ _ _ h => h) (.inl ⟨rfl, fun w' hS => by simp [go_sem]⟩) hS0 ?_
    refine act_normS (by simp only [Act.put, List.setIfInBounds_toArray, List.set_cons_zero, List.set_cons_succ]; rfl) ?_
    refine wpAnyH_take (i := 3) (v := .pointer (some ⟨g, 0, none⟩)) (List.getElem?_toArray.trans rfl) (by kernel_rfl) (by kernel_rfl) (by kernel_rfl) (fun _ _ _ h => h) (.inl ⟨rfl, fun w' hS => by simp [go_sem]⟩) hS0 ?_
    refine act_normS (by simp only [Act.put, List.setIfInBounds_toArray, List.set_cons_zero, List.set_cons_succ]; rfl) ?_
    refine wpAnyH_take (i := 4) (v := .pointer (some ⟨g, 4, none⟩)) (List.getElem?_toArray.trans rfl) (by kernel_rfl) (by kernel_rfl) (by kernel_rfl) (fun _ _ _ h => h) (.inl ⟨rfl, fun w' hS => by simp [go_sem]⟩) hS0 ?_
    refine act_normS (by simp only [Act.put, List.setIfInBounds_toArray, List.set_cons_zero, List.set_cons_succ]; rfl) ?_
    refine wpAnyH_take (i := 6) (v := .pointer (some ⟨g, 0, none⟩)) (List.getElem?_toArray.trans rfl) (by kernel_rfl) (by kernel_rfl) (by kernel_rfl) (fun _ _ _ h => h) (.inl ⟨rfl, fun w' hS => rfl⟩) hS0 ?_
    refine act_normS (by simp only [Act.put, List.setIfInBounds_toArray, List.set_cons_zero, List.set_cons_succ]; rfl) ?_
    refine wpAnyH_take (i := 7) (v := .pointer (some ⟨g, 0, none⟩)) (List.getElem?_toArray.trans rfl) (by kernel_rfl) (by kernel_rfl) (by kernel_rfl) (fun _ _ _ h => h) (.inl ⟨rfl, fun w' hS => by simp [go_sem]⟩) hS0 ?_
    refine act_normS (by simp only [Act.put, List.setIfInBounds_toArray, List.set_cons_zero, List.set_cons_succ]; rfl) ?_
    refine wpAnyH_take (i := 8) (v := .pointer (some ⟨g, 0, none⟩)) (List.getElem?_toArray.trans rfl) (by kernel_rfl) (by kernel_rfl) (by kernel_rfl) (fun _ _ _ h => h) (.inl ⟨rfl, fun w' hS => by simp [go_sem]⟩) hS0 ?_
    refine act_normS (by simp only [Act.put, List.setIfInBounds_toArray, List.set_cons_zero, List.set_cons_succ]; rfl) ?_
    refine wpAnyH_take (i := 9) (v := .pointer (some ⟨g, 3, none⟩)) (List.getElem?_toArray.trans rfl) (by kernel_rfl) (by kernel_rfl) (by kernel_rfl) (fun _ _ _ h => h) (.inl ⟨rfl, fun w' hS => by simp [go_sem]⟩) hS0 ?_
    refine act_normS (by simp only [Act.put, List.setIfInBounds_toArray, List.set_cons_zero, List.set_cons_succ]; rfl) ?_
    refine wpAnyH_take (i := 10) (v := .int .u64 (sm : Int)) (List.getElem?_toArray.trans rfl) (by kernel_rfl) (by kernel_rfl) (by kernel_rfl) (fun _ _ _ h => h) (.inl ⟨rfl, fun w' hS => by have hc := hS; simp [go_sem, hc]⟩) hS0 ?_
    refine act_normS (by simp only [Act.put, List.setIfInBounds_toArray, List.set_cons_zero, List.set_cons_succ]; rfl) ?_
    refine wpAnyH_take (i := 11) (v := .int .u64 (a : Int)) (List.getElem?_toArray.trans rfl) (by kernel_rfl) (by kernel_rfl) (by kernel_rfl) (fun _ _ _ h => h) (.inl ⟨rfl, fun w' hS => rfl⟩) hS0 ?_
    refine act_normS (by simp only [Act.put, List.setIfInBounds_toArray, List.set_cons_zero, List.set_cons_succ]; rfl) ?_
    refine wpAnyH_ready (rs := [5, 12]) (by kernel_rfl) (by simp) (AllReadyH.cons (List.getElem?_toArray.trans rfl) (fun K' hK => ?_) (AllReadyH.cons (List.getElem?_toArray.trans rfl) (fun K' hK => ?_) AllReadyH.nil))
    · refine wanted_goS rfl ?_
      go_simp
      refine hK.out _ _ (hS0) (fun _ => ?_)
      clear hK K'
      refine wpAnyH_ready (rs := [12]) (by kernel_rfl) (by simp) (AllReadyH.cons (List.getElem?_toArray.trans rfl) (fun K' hK => ?_) AllReadyH.nil)
      refine wanted_goS rfl ?_
      go_simp
      refine (HAP.out _).mono ?_
      rintro e w3 ⟨rfl, rfl⟩
      refine hK.out _ _ (hS0) (fun _ => ?_)
      clear hK K'
      refine wpAnyH_ready (rs := [13]) (by kernel_rfl) (by simp) (AllReadyH.cons (List.getElem?_toArray.trans rfl) (fun K' hK => ?_) AllReadyH.nil)
      refine wanted_goS rfl ?_
      go_simp
      refine (HMV.out _).mono ?_
      rintro e w4 ⟨rfl, hb4⟩
      have h4 := HR3.out.below hb4
      have hS4 := h4.c3
      have c44 := h4.c4
      have f44 := h4.fz 4
      have h5 : RAt (w4.setCell ⟨g, 4, none⟩ (.int .u64 (v : Int))) g { (⟨true, x, m, sm, va⟩ : RS) with va := v } := h4.set 4 _ rfl
      have hg5 : w.grownBy (w4.setCell ⟨g, 4, none⟩ (.int .u64 (v : Int))) (some g) := grown_trans (grown_trans HG3.out (grown_below hb4)) (grown_set _ _ _ _)
      have hS5 := h5.c3
      refine hK.out _ _ (hS4) (fun _ => ?_)
      clear hK K'
      refine wpAnyH_take (i := 14) (v := .pointer (some ⟨g, 0, none⟩)) (List.getElem?_toArray.trans rfl) (by kernel_rfl) (by kernel_rfl) (by kernel_rfl) (fun _ _ _ h => h) (.inl ⟨rfl, fun w' hS => by simp [go_sem]⟩) hS4 ?_
      refine act_normS (by simp only [Act.put, List.setIfInBounds_toArray, List.set_cons_zero, List.set_cons_succ]; rfl) ?_
      refine wpAnyH_take (i := 15) (v := .pointer (some ⟨g, 0, none⟩)) (List.getElem?_toArray.trans rfl) (by kernel_rfl) (by kernel_rfl) (by kernel_rfl) (fun _ _ _ h => h) (.inl ⟨rfl, fun w' hS => by simp [go_sem]⟩) hS4 ?_
      refine act_normS (by simp only [Act.put, List.setIfInBounds_toArray, List.set_cons_zero, List.set_cons_succ]; rfl) ?_
      refine wpAnyH_take (i := 16) (v := .pointer (some ⟨g, 4, none⟩)) (List.getElem?_toArray.trans rfl) (by kernel_rfl) (by kernel_rfl) (by kernel_rfl) (fun _ _ _ h => h) (.inl ⟨rfl, fun w' hS => by simp [go_sem]⟩) hS4 ?_
      refine act_normS (by simp only [Act.put, List.setIfInBounds_toArray, List.set_cons_zero, List.set_cons_succ]; rfl) ?_
      refine wpAnyH_ready (rs := [17]) (by kernel_rfl) (by simp) (AllReadyH.cons (List.getElem?_toArray.trans rfl) (fun K' hK => ?_) AllReadyH.nil)
      refine wanted_goS rfl ?_
      go_simp
      refine hK.out _ _ (hS5) (fun _ => ?_)
      clear hK K'
      refine wpAnyH_done (by kernel_rfl) ?_ _
      have H5 := Lib.hid h5
      have HG5 := Lib.hid hg5
      have c3 := h5.c3
      have f3 := h5.fz 3
      clear h5 hg5 hS5 hS4 c44 f44 h4 hb4
      generalize w4.setCell ⟨g, 4, none⟩ (.int .u64 (v : Int)) = w5 at *
      go_wp2_with fail
      refine (HMS.out _).mono ?_
      rintro e w6 ⟨rfl, hb6⟩
      have h6 := H5.out.below hb6
      have c36 := h6.c3
      have f36 := h6.fz 3
      have h7 : RAt (w6.setCell ⟨g, 3, none⟩ (.int .u64 (t : Int))) g { (⟨true, x, m, sm, va⟩ : RS) with va := v, sm := t } := h6.set 3 _ rfl
      have hg7 : w.grownBy (w6.setCell ⟨g, 3, none⟩ (.int .u64 (t : Int))) (some g) := grown_trans (grown_trans HG5.out (grown_below hb6)) (grown_set _ _ _ _)
      have H7 := Lib.hid h7
      have HG7 := Lib.hid hg7
      clear h7 hg7 h6 hb6 c3 f3
      go_wp2
      go_end0
      exact ⟨rfl, HG7.out, by rw [HSS.out]; exact H7.out⟩
    · refine wanted_goS rfl ?_
      go_simp
      refine (HAP.out _).mono ?_
      rintro e w3 ⟨rfl, rfl⟩
      refine hK.out _ _ (hS0) (fun _ => ?_)
      clear hK K'
      refine wpAnyH_ready (rs := [5]) (by kernel_rfl) (by simp) (AllReadyH.cons (List.getElem?_toArray.trans rfl) (fun K' hK => ?_) AllReadyH.nil)
      refine wanted_goS rfl ?_
      go_simp
      refine hK.out _ _ (hS0) (fun _ => ?_)
      clear hK K'
      refine wpAnyH_ready (rs := [13]) (by kernel_rfl) (by simp) (AllReadyH.cons (List.getElem?_toArray.trans rfl) (fun K' hK => ?_) AllReadyH.nil)
      refine wanted_goS rfl ?_
      go_simp
      refine (HMV.out _).mono ?_
      rintro e w4 ⟨rfl, hb4⟩
      have h4 := HR3.out.below hb4
      have hS4 := h4.c3
      have c44 := h4.c4
      have f44 := h4.fz 4
      have h5 : RAt (w4.setCell ⟨g, 4, none⟩ (.int .u64 (v : Int))) g { (⟨true, x, m, sm, va⟩ : RS) with va := v } := h4.set 4 _ rfl
      have hg5 : w.grownBy (w4.setCell ⟨g, 4, none⟩ (.int .u64 (v : Int))) (some g) := grown_trans (grown_trans HG3.out (grown_below hb4)) (grown_set _ _ _ _)
      have hS5 := h5.c3
      refine hK.out _ _ (hS4) (fun _ => ?_)
      clear hK K'
      refine wpAnyH_take (i := 14) (v := .pointer (some ⟨g, 0, none⟩)) (List.getElem?_toArray.trans rfl) (by kernel_rfl) (by kernel_rfl) (by kernel_rfl) (fun _ _ _ h => h) (.inl ⟨rfl, fun w' hS => by simp [go_sem]⟩) hS4 ?_
      refine act_normS (by simp only [Act.put, List.setIfInBounds_toArray, List.set_cons_zero, List.set_cons_succ]; rfl) ?_
      refine wpAnyH_take (i := 15) (v := .pointer (some ⟨g, 0, none⟩)) (List.getElem?_toArray.trans rfl) (by kernel_rfl) (by kernel_rfl) (by kernel_rfl) (fun _ _ _ h => h) (.inl ⟨rfl, fun w' hS => by simp [go_sem]⟩) hS4 ?_
      refine act_normS (by simp only [Act.put, List.setIfInBounds_toArray, List.set_cons_zero, List.set_cons_succ]; rfl) ?_
      refine wpAnyH_take (i := 16) (v := .pointer (some ⟨g, 4, none⟩)) (List.getElem?_toArray.trans rfl) (by kernel_rfl) (by kernel_rfl) (by kernel_rfl) (fun _ _ _ h => h) (.inl ⟨rfl, fun w' hS => by simp [go_sem]⟩) hS4 ?_
      refine act_normS (by simp only [Act.put, List.setIfInBounds_toArray, List.set_cons_zero, List.set_cons_succ]; rfl) ?_
      refine wpAnyH_ready (rs := [17]) (by kernel_rfl) (by simp) (AllReadyH.cons (List.getElem?_toArray.trans rfl) (fun K' hK => ?_) AllReadyH.nil)
      refine wanted_goS rfl ?_
      go_simp
      refine hK.out _ _ (hS5) (fun _ => ?_)
      clear hK K'
      refine wpAnyH_done (by kernel_rfl) ?_ _
      have H5 := Lib.hid h5
      have HG5 := Lib.hid hg5
      have c3 := h5.c3
      have f3 := h5.fz 3
      clear h5 hg5 hS5 hS4 c44 f44 h4 hb4
      generalize w4.setCell ⟨g, 4, none⟩ (.int .u64 (v : Int)) = w5 at *
      go_wp2_with fail
      refine (HMS.out _).mono ?_
      rintro e w6 ⟨rfl, hb6⟩
      have h6 := H5.out.below hb6
      have c36 := h6.c3
      have f36 := h6.fz 3
      have h7 : RAt (w6.setCell ⟨g, 3, none⟩ (.int .u64 (t : Int))) g { (⟨true, x, m, sm, va⟩ : RS) with va := v, sm := t } := h6.set 3 _ rfl
      have hg7 : w.grownBy (w6.setCell ⟨g, 3, none⟩ (.int .u64 (t : Int))) (some g) := grown_trans (grown_trans HG5.out (grown_below hb6)) (grown_set _ _ _ _)
      have H7 := Lib.hid h7
      have HG7 := Lib.hid hg7
      clear h7 hg7 h6 hb6 c3 f3
      go_wp2
      go_end0
      exact ⟨rfl, HG7.out, by rw [HSS.out]; exact H7.out⟩
  · have d1 : decide ((x : Int) ≥ (m : Int) + (y : Int)) = false := decide_eq_false (by omega)
    have HA : Hid (x = a) := Lib.hid (by rw [HAD.out, if_neg hle])
    clear e2 hle
    go_upto_region 8 with (fail)
    clear d1
    rw [HA.out]
    have HR3 := Lib.hid (HR2.out.below (Below.refl _ _).drew)
    have HG3 := Lib.hid (grown_trans HG2.out (grown_below (row := some g) (Below.refl w2.heap.size w2).drew))
    have hS : w2.drew.cell? ⟨g, 3, none⟩ = some (.int .u64 (sm : Int)) := HR3.out.c3
    refine wp_region_held_drew (S := fun w' => w'.cell? ⟨g, 3, none⟩ = some (.int .u64 (sm : Int))) (by kernel_rfl) hS (fun hS0 => ?_)
    clear hS HR2 HG2 HA c2 e1
    generalize w2.drew = w3 at *
    have c4 := HR3.out.c4
    simp only [] at c4
    refine wpAnyH_take (i := 0) (v := .pointer (some ⟨g, 0, none⟩)) (List.getElem?_toArray.trans rfl) (by kernel_rfl) (by kernel_rfl) (by kernel_rfl) (fun _ _ _ h => h) (.inl ⟨rfl, fun w' hS => rfl⟩) hS0 ?_
    refine act_normS (by simp only [Act.put, List.setIfInBounds_toArray, List.set_cons_zero, List.set_cons_succ]; rfl) ?_
    refine wpAnyH_take (i := 1) (v := .pointer (some ⟨g, 0, none⟩)) (List.getElem?_toArray.trans rfl) (by kernel_rfl) (by kernel_rfl) (by kernel_rfl) (fun _ _ _ h => h) (.inl ⟨rfl, fun w' hS => rfl⟩) hS0 ?_
    refine act_normS (by simp only [Act.put, List.setIfInBounds_toArray, List.set_cons_zero, List.set_cons_succ]; rfl) ?_
    refine wpAnyH_take (i := 2) (v := .pointer (some ⟨g, 0, none⟩)) (List.getElem?_toArray.trans rfl) (by kernel_rfl) (by kernel_rfl) (by kernel_rfl) (fun _ _ _ h => h) (.inl ⟨rfl, fun w' hS => by simp [go_sem]⟩) hS0 ?_
    refine act_normS (by simp only [Act.put, List.setIfInBounds_toArray, List.set_cons_zero, List.set_cons_succ]; rfl) ?_
    refine wpAnyH_take (i := 3) (v := .pointer (some ⟨g, 0, none⟩)) (List.getElem?_toArray.trans rfl) (by kernel_rfl) (by kernel_rfl) (by kernel_rfl) (fun _ _ _ h => h) (.inl ⟨rfl, fun w' hS => by simp [go_sem]⟩) hS0 ?_
    refine act_normS (by simp only [Act.put, List.setIfInBounds_toArray, List.set_cons_zero, List.set_cons_succ]; rfl) ?_
    refine wpAnyH_take (i := 4) (v := .pointer (some ⟨g, 4, none⟩)) (List.getElem?_toArray.trans rfl) (by kernel_rfl) (by kernel_rfl) (by kernel_rfl) (fun _ _ _ h => h) (.inl ⟨rfl, fun w' hS => by simp [go_sem]⟩) hS0 ?_
    refine act_normS (by simp only [Act.put, List.setIfInBounds_toArray, List.set_cons_zero, List.set_cons_succ]; rfl) ?_
    refine wpAnyH_take (i := 6) (v := .pointer (some ⟨g, 0, none⟩)) (List.getElem?_toArray.trans rfl) (by kernel_rfl) (by kernel_rfl) (by kernel_rfl) (fun _ _ _ h => h) (.inl ⟨rfl, fun w' hS => rfl⟩) hS0 ?_
    refine act_normS (by simp only [Act.put, List.setIfInBounds_toArray, List.set_cons_zero, List.set_cons_succ]; rfl) ?_
    refine wpAnyH_take (i := 7) (v := .pointer (some ⟨g, 0, none⟩)) (List.getElem?_toArray.trans rfl) (by kernel_rfl) (by kernel_rfl) (by kernel_rfl) (fun _ _ _ h => h) (.inl ⟨rfl, fun w' hS => by simp [go_sem]⟩) hS0 ?_
    refine act_normS (by simp only [Act.put, List.setIfInBounds_toArray, List.set_cons_zero, List.set_cons_succ]; rfl) ?_
    refine wpAnyH_take (i := 8) (v := .pointer (some ⟨g, 0, none⟩)) (List.getElem?_toArray.trans rfl) (by kernel_rfl) (by kernel_rfl) (by kernel_rfl) (fun _ _ _ h => h) (.inl ⟨rfl, fun w' hS => by simp [go_sem]⟩) hS0 ?_
    refine act_normS (by simp only [Act.put, List.setIfInBounds_toArray, List.set_cons_zero, List.set_cons_succ]; rfl) ?_
    refine wpAnyH_take (i := 9) (v := .pointer (some ⟨g, 3, none⟩)) (List.getElem?_toArray.trans rfl) (by kernel_rfl) (by kernel_rfl) (by kernel_rfl) (fun _ _ _ h => h) (.inl ⟨rfl, fun w' hS => by simp [go_sem]⟩) hS0 ?_
    refine act_normS (by simp only [Act.put, List.setIfInBounds_toArray, List.set_cons_zero, List.set_cons_succ]; rfl) ?_
    refine wpAnyH_take (i := 10) (v := .int .u64 (sm : Int)) (List.getElem?_toArray.trans rfl) (by kernel_rfl) (by kernel_rfl) (by kernel_rfl) (fun _ _ _ h => h) (.inl ⟨rfl, fun w' hS => by have hc := hS; simp [go_sem, hc]⟩) hS0 ?_
    refine act_normS (by simp only [Act.put, List.setIfInBounds_toArray, List.set_cons_zero, List.set_cons_succ]; rfl) ?_
    refine wpAnyH_take (i := 11) (v := .int .u64 (a : Int)) (List.getElem?_toArray.trans rfl) (by kernel_rfl) (by kernel_rfl) (by kernel_rfl) (fun _ _ _ h => h) (.inl ⟨rfl, fun w' hS => rfl⟩) hS0 ?_
    refine act_normS (by simp only [Act.put, List.setIfInBounds_toArray, List.set_cons_zero, List.set_cons_succ]; rfl) ?_
    refine wpAnyH_ready (rs := [5, 12]) (by kernel_rfl) (by simp) (AllReadyH.cons (List.getElem?_toArray.trans rfl) (fun K' hK => ?_) (AllReadyH.cons (List.getElem?_toArray.trans rfl) (fun K' hK => ?_) AllReadyH.nil))
    · refine wanted_goS rfl ?_
      go_simp
      refine hK.out _ _ (hS0) (fun _ => ?_)
      clear hK K'
      refine wpAnyH_ready (rs := [12]) (by kernel_rfl) (by simp) (AllReadyH.cons (List.getElem?_toArray.trans rfl) (fun K' hK => ?_) AllReadyH.nil)
      refine wanted_goS rfl ?_
      go_simp
      refine (HAP.out _).mono ?_
      rintro e w3 ⟨rfl, rfl⟩
      refine hK.out _ _ (hS0) (fun _ => ?_)
      clear hK K'
      refine wpAnyH_ready (rs := [13]) (by kernel_rfl) (by simp) (AllReadyH.cons (List.getElem?_toArray.trans rfl) (fun K' hK => ?_) AllReadyH.nil)
      refine wanted_goS rfl ?_
      go_simp
      refine (HMV.out _).mono ?_
      rintro e w4 ⟨rfl, hb4⟩
      have h4 := HR3.out.below hb4
      have hS4 := h4.c3
      have c44 := h4.c4
      have f44 := h4.fz 4
      have h5 : RAt (w4.setCell ⟨g, 4, none⟩ (.int .u64 (v : Int))) g { (⟨true, x, m, sm, va⟩ : RS) with va := v } := h4.set 4 _ rfl
      have hg5 : w.grownBy (w4.setCell ⟨g, 4, none⟩ (.int .u64 (v : Int))) (some g) := grown_trans (grown_trans HG3.out (grown_below hb4)) (grown_set _ _ _ _)
      have hS5 := h5.c3
      refine hK.out _ _ (hS4) (fun _ => ?_)
      clear hK K'
      refine wpAnyH_take (i := 14) (v := .pointer (some ⟨g, 0, none⟩)) (List.getElem?_toArray.trans rfl) (by kernel_rfl) (by kernel_rfl) (by kernel_rfl) (fun _ _ _ h => h) (.inl ⟨rfl, fun w' hS => by simp [go_sem]⟩) hS4 ?_
      refine act_normS (by simp only [Act.put, List.setIfInBounds_toArray, List.set_cons_zero, List.set_cons_succ]; rfl) ?_
      refine wpAnyH_take (i := 15) (v := .pointer (some ⟨g, 0, none⟩)) (List.getElem?_toArray.trans rfl) (by kernel_rfl) (by kernel_rfl) (by kernel_rfl) (fun _ _ _ h => h) (.inl ⟨rfl, fun w' hS => by simp [go_sem]⟩) hS4 ?_
      refine act_normS (by simp only [Act.put, List.setIfInBounds_toArray, List.set_cons_zero, List.set_cons_succ]; rfl) ?_
      refine wpAnyH_take (i := 16) (v := .pointer (some ⟨g, 4, none⟩)) (List.getElem?_toArray.trans rfl) (by kernel_rfl) (by kernel_rfl) (by kernel_rfl) (fun _ _ _ h => h) (.inl ⟨rfl, fun w' hS => by simp [go_sem]⟩) hS4 ?_
      refine act_normS (by simp only [Act.put, List.setIfInBounds_toArray, List.set_cons_zero, List.set_cons_succ]; rfl) ?_
      refine wpAnyH_ready (rs := [17]) (by kernel_rfl) (by simp) (AllReadyH.cons (List.getElem?_toArray.trans rfl) (fun K' hK => ?_) AllReadyH.nil)
      refine wanted_goS rfl ?_
      go_simp
      refine hK.out _ _ (hS5) (fun _ => ?_)
      clear hK K'
      refine wpAnyH_done (by kernel_rfl) ?_ _
      have H5 := Lib.hid h5
      have HG5 := Lib.hid hg5
      have c3 := h5.c3
      have f3 := h5.fz 3
      clear h5 hg5 hS5 hS4 c44 f44 h4 hb4
      generalize w4.setCell ⟨g, 4, none⟩ (.int .u64 (v : Int)) = w5 at *
      go_wp2_with fail
      refine (HMS.out _).mono ?_
      rintro e w6 ⟨rfl, hb6⟩
      have h6 := H5.out.below hb6
      have c36 := h6.c3
      have f36 := h6.fz 3
      have h7 : RAt (w6.setCell ⟨g, 3, none⟩ (.int .u64 (t : Int))) g { (⟨true, x, m, sm, va⟩ : RS) with va := v, sm := t } := h6.set 3 _ rfl
      have hg7 : w.grownBy (w6.setCell ⟨g, 3, none⟩ (.int .u64 (t : Int))) (some g) := grown_trans (grown_trans HG5.out (grown_below hb6)) (grown_set _ _ _ _)
      have H7 := Lib.hid h7
      have HG7 := Lib.hid hg7
      clear h7 hg7 h6 hb6 c3 f3
      go_wp2
      go_end0
      exact ⟨rfl, HG7.out, by rw [HSS.out]; exact H7.out⟩
    · refine wanted_goS rfl ?_
      go_simp
      refine (HAP.out _).mono ?_
      rintro e w3 ⟨rfl, rfl⟩
      refine hK.out _ _ (hS0) (fun _ => ?_)
      clear hK K'
      refine wpAnyH_ready (rs := [5]) (by kernel_rfl) (by simp) (AllReadyH.cons (List.getElem?_toArray.trans rfl) (fun K' hK => ?_) AllReadyH.nil)
      refine wanted_goS rfl ?_
      go_simp
      refine hK.out _ _ (hS0) (fun _ => ?_)
      clear hK K'
      refine wpAnyH_ready (rs := [13]) (by kernel_rfl) (by simp) (AllReadyH.cons (List.getElem?_toArray.trans rfl) (fun K' hK => ?_) AllReadyH.nil)
      refine wanted_goS rfl ?_
      go_simp
      refine (HMV.out _).mono ?_
      rintro e w4 ⟨rfl, hb4⟩
      have h4 := HR3.out.below hb4
      have hS4 := h4.c3
      have c44 := h4.c4
      have f44 := h4.fz 4
      have h5 : RAt (w4.setCell ⟨g, 4, none⟩ (.int .u64 (v : Int))) g { (⟨true, x, m, sm, va⟩ : RS) with va := v } := h4.set 4 _ rfl
      have hg5 : w.grownBy (w4.setCell ⟨g, 4, none⟩ (.int .u64 (v : Int))) (some g) := grown_trans (grown_trans HG3.out (grown_below hb4)) (grown_set _ _ _ _)
      have hS5 := h5.c3
      refine hK.out _ _ (hS4) (fun _ => ?_)
      clear hK K'
      refine wpAnyH_take (i := 14) (v := .pointer (some ⟨g, 0, none⟩)) (List.getElem?_toArray.trans rfl) (by kernel_rfl) (by kernel_rfl) (by kernel_rfl) (fun _ _ _ h => h) (.inl ⟨rfl, fun w' hS => by simp [go_sem]⟩) hS4 ?_
      refine act_normS (by simp only [Act.put, List.setIfInBounds_toArray, List.set_cons_zero, List.set_cons_succ]; rfl) ?_
      refine wpAnyH_take (i := 15) (v := .pointer (some ⟨g, 0, none⟩)) (List.getElem?_toArray.trans rfl) (by kernel_rfl) (by kernel_rfl) (by kernel_rfl) (fun _ _ _ h => h) (.inl ⟨rfl, fun w' hS => by simp [go_sem]⟩) hS4 ?_
      refine act_normS (by simp only [Act.put, List.setIfInBounds_toArray, List.set_cons_zero, List.set_cons_succ]; rfl) ?_
      refine wpAnyH_take (i := 16) (v := .pointer (some ⟨g, 4, none⟩)) (List.getElem?_toArray.trans rfl) (by kernel_rfl) (by kernel_rfl) (by kernel_rfl) (fun _ _ _ h => h) (.inl ⟨rfl, fun w' hS => by simp [go_sem]⟩) hS4 ?_
      refine act_normS (by simp only [Act.put, List.setIfInBounds_toArray, List.set_cons_zero, List.set_cons_succ]; rfl) ?_
      refine wpAnyH_ready (rs := [17]) (by kernel_rfl) (by simp) (AllReadyH.cons (List.getElem?_toArray.trans rfl) (fun K' hK => ?_) AllReadyH.nil)
      refine wanted_goS rfl ?_
      go_simp
      refine hK.out _ _ (hS5) (fun _ => ?_)
      clear hK K'
      refine wpAnyH_done (by kernel_rfl) ?_ _
      have H5 := Lib.hid h5
      have HG5 := Lib.hid hg5
      have c3 := h5.c3
      have f3 := h5.fz 3
      clear h5 hg5 hS5 hS4 c44 f44 h4 hb4
      generalize w4.setCell ⟨g, 4, none⟩ (.int .u64 (v : Int)) = w5 at *
      go_wp2_with fail
      refine (HMS.out _).mono ?_
      rintro e w6 ⟨rfl, hb6⟩
      have h6 := H5.out.below hb6
      have c36 := h6.c3
      have f36 := h6.fz 3
      have h7 : RAt (w6.setCell ⟨g, 3, none⟩ (.int .u64 (t : Int))) g { (⟨true, x, m, sm, va⟩ : RS) with va := v, sm := t } := h6.set 3 _ rfl
      have hg7 : w.grownBy (w6.setCell ⟨g, 3, none⟩ (.int .u64 (t : Int))) (some g) := grown_trans (grown_trans HG5.out (grown_below hb6)) (grown_set _ _ _ _)
      have H7 := Lib.hid h7
      have HG7 := Lib.hid hg7
      clear h7 hg7 h6 hb6 c3 f3
      go_wp2
      go_end0
      exact ⟨rfl, HG7.out, by rw [HSS.out]; exact H7.out⟩

end Go.Proofs.Ytoahannfpnkpkaa
