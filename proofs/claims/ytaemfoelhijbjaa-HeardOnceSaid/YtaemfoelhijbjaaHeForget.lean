/-
  The walk through Forget: made by tools/gen_heforget.py.
-/
import Derived.Test.YtaemfoelhijbjaaHeKit
import Derived.Test.YtaemfoelhijbjaaHeMeth
import Derived.Test.YtaemfoelhijbjaaSpDraw
import Derived.Deep.Cut
namespace Go.Proofs.Ytaemfoelhijbjaa
open Go.RowKit
set_option linter.unusedVariables false

theorem inB_below (f x : Nat) : inB [(0, f)] x = decide (x < f) := by
  rw [inB_one]
  simp

/-- What Forget leaves. -/
def ForgetGave (g : Nat) (s : HS) (f : Nat) (w : World) (e : Ending) (w' : World) : Prop := ∃ l, Shorn s f l ∧ HGave g { s with fl := f, l := l } w e w'

set_option maxRecDepth 10000 in
set_option maxHeartbeats 2000000 in
theorem forget_any (w : World) (g n c below : Nat) (A : Option Addr) (s : HS) (h : HAt w g A n c s) (ho : s.Ok) (hb : below ≤ topN) :
    Calls Try.prog 8 #[.pointer (some ⟨g, 0, none⟩), .int .u64 (below : Int)] w (ForgetGave g s (max s.fl below) w) := by
  have c1 := h.c1
  have f1 := h.fz 1
  obtain ⟨f, hf⟩ : ∃ f, f = max s.fl below := ⟨_, rfl⟩
  have HF := Lib.hid hf
  have h2 : HAt (w.setCell ⟨g, 1, none⟩ (.int .u64 (f : Int))) g A n c { s with fl := f } := h.set 1 _ rfl rfl
  have hg2 : w.grownBy (w.setCell ⟨g, 1, none⟩ (.int .u64 (f : Int))) (some g) := grown_set _ _ _ _
  have HFT : Hid (f ≤ topN) := Lib.hid (by rw [hf]; have := ho.fl; omega)
  have HN : Hid (n ≤ 64) := Lib.hid (by have := ho.few; have := h.len; omega)
  have HFI := Lib.hid ho.fit
  have HS2 := Lib.hid h2
  have HG2 := Lib.hid hg2
  clear h ho hb h2 hg2
  rw [← hf]
  go_enter Try.func8, Try.ntmps8
  obtain ⟨x, hx⟩ : ∃ x : Int, x = (s.fl : Int) := ⟨_, rfl⟩
  obtain ⟨y, hy⟩ : ∃ y : Int, y = (below : Int) := ⟨_, rfl⟩
  rw [← hx] at c1
  rw [← hy]
  have HE : Hid (max x y = (f : Int)) := Lib.hid (by rw [HF.out]; omega)
  clear hx hy hf
  go_upto_region 2 with (fail)
  rw [HE.out]
  clear HE c1 f1
  generalize w.setCell ⟨g, 1, none⟩ (.int .u64 (f : Int)) = w1 at *
  have hS : w1.drew.cell? ⟨g, 1, none⟩ = some (.int .u64 (f : Int)) := (HS2.out.below (Below.refl _ _).drew).c1
  have HS3 := Lib.hid (HS2.out.below (Below.refl _ _).drew)
  have HG3 := Lib.hid (grown_trans HG2.out (grown_below (row := some g) (Below.refl w1.heap.size w1).drew))
  refine wp_region_held_drew (S := fun w' => w'.cell? ⟨g, 1, none⟩ = some (.int .u64 (f : Int))) (by kernel_rfl) hS (fun hS0 => ?_)
  clear hS HS2 HG2
  generalize w1.drew = w2 at *
  have c0 := HS3.out.c0
  have HA3 : Hid (Below w2.heap.size w2 (w2.alloc (.cells #[.int .u64 0, .int .u64 (f : Int)] 42))) := Lib.hid ((Below.refl _ _).alloc (Nat.le_refl _) _)
  have HS3A : Hid ((w2.alloc (.cells #[.int .u64 0, .int .u64 (f : Int)] 42)).cell? ⟨g, 1, none⟩ = some (.int .u64 (f : Int))) := Lib.hid (HS3.out.below HA3.out).c1
  have HC0A : Hid ((w2.alloc (.cells #[.int .u64 0, .int .u64 (f : Int)] 42)).cell? ⟨g, 0, none⟩ = some (.slice A n c)) := Lib.hid (HS3.out.below HA3.out).c0
  have HWS : Hid ((w2.alloc (.cells #[.int .u64 0, .int .u64 (f : Int)] 42)).heap.size = w2.heap.size + 1) := Lib.hid (by simp)
  have hgl := HS3.out.lt
  have HC : Hid (Calls Try.prog 15 #[.slice A n c, .slice (some ⟨w2.heap.size, 0, none⟩) 1 1] (w2.alloc (.cells #[.int .u64 0, .int .u64 (f : Int)] 42)) (Makes (2 * (n + 1) + 2) (fun x => inB s.l x && !inB [(0, f)] x) (w2.alloc (.cells #[.int .u64 0, .int .u64 (f : Int)] 42)))) :=
    Lib.hid (cut_any _ _ A (some ⟨w2.heap.size, 0, none⟩) n c 1 1 s.l [(0, f)] (((HS3.out.hands (by have := HN.out; omega) HFI.out).below HA3.out).mono (by rw [HWS.out]; omega)) ⟨rfl, by omega, (rs_new w2 (0, f)).mono (by rw [HWS.out]; exact Nat.le_refl _), Nat.le_refl _, by decide, fun x hx => by simp at hx; subst hx; exact ⟨Nat.zero_le _, HFT.out⟩⟩ (Nat.le_refl _))
  clear HFI HFT HN
  refine wpAnyH_take (i := 0) (v := .pointer (some ⟨g, 0, none⟩)) (List.getElem?_toArray.trans rfl) (by kernel_rfl) (by kernel_rfl) (by kernel_rfl) (fun _ _ _ h => h) (.inl ⟨rfl, fun w' hS => rfl⟩) hS0 ?_
  refine act_normS (by simp only [Act.put, List.setIfInBounds_toArray, List.set_cons_zero, List.set_cons_succ]; rfl) ?_
  refine wpAnyH_take (i := 1) (v := .pointer (some ⟨g, 0, none⟩)) (List.getElem?_toArray.trans rfl) (by kernel_rfl) (by kernel_rfl) (by kernel_rfl) (fun _ _ _ h => h) (.inl ⟨rfl, fun w' hS => rfl⟩) hS0 ?_
  refine act_normS (by simp only [Act.put, List.setIfInBounds_toArray, List.set_cons_zero, List.set_cons_succ]; rfl) ?_
  refine wpAnyH_take (i := 2) (v := .pointer (some ⟨g, 0, none⟩)) (List.getElem?_toArray.trans rfl) (by kernel_rfl) (by kernel_rfl) (by kernel_rfl) (fun _ _ _ h => h) (.inl ⟨rfl, fun w' hS => by simp [go_sem]⟩) hS0 ?_
  refine act_normS (by simp only [Act.put, List.setIfInBounds_toArray, List.set_cons_zero, List.set_cons_succ]; rfl) ?_
  refine wpAnyH_take (i := 3) (v := .pointer (some ⟨g, 0, none⟩)) (List.getElem?_toArray.trans rfl) (by kernel_rfl) (by kernel_rfl) (by kernel_rfl) (fun _ _ _ h => h) (.inl ⟨rfl, fun w' hS => by simp [go_sem]⟩) hS0 ?_
  refine act_normS (by simp only [Act.put, List.setIfInBounds_toArray, List.set_cons_zero, List.set_cons_succ]; rfl) ?_
  refine wpAnyH_take (i := 4) (v := .pointer (some ⟨g, 0, none⟩)) (List.getElem?_toArray.trans rfl) (by kernel_rfl) (by kernel_rfl) (by kernel_rfl) (fun _ _ _ h => h) (.inl ⟨rfl, fun w' hS => by simp [go_sem]⟩) hS0 ?_
  refine act_normS (by simp only [Act.put, List.setIfInBounds_toArray, List.set_cons_zero, List.set_cons_succ]; rfl) ?_
  refine wpAnyH_take (i := 6) (v := .pointer (some ⟨g, 0, none⟩)) (List.getElem?_toArray.trans rfl) (by kernel_rfl) (by kernel_rfl) (by kernel_rfl) (fun _ _ _ h => h) (.inl ⟨rfl, fun w' hS => rfl⟩) hS0 ?_
  refine act_normS (by simp only [Act.put, List.setIfInBounds_toArray, List.set_cons_zero, List.set_cons_succ]; rfl) ?_
  refine wpAnyH_take (i := 7) (v := .pointer (some ⟨g, 0, none⟩)) (List.getElem?_toArray.trans rfl) (by kernel_rfl) (by kernel_rfl) (by kernel_rfl) (fun _ _ _ h => h) (.inl ⟨rfl, fun w' hS => by simp [go_sem]⟩) hS0 ?_
  refine act_normS (by simp only [Act.put, List.setIfInBounds_toArray, List.set_cons_zero, List.set_cons_succ]; rfl) ?_
  refine wpAnyH_take (i := 8) (v := .pointer (some ⟨g, 0, none⟩)) (List.getElem?_toArray.trans rfl) (by kernel_rfl) (by kernel_rfl) (by kernel_rfl) (fun _ _ _ h => h) (.inl ⟨rfl, fun w' hS => by simp [go_sem]⟩) hS0 ?_
  refine act_normS (by simp only [Act.put, List.setIfInBounds_toArray, List.set_cons_zero, List.set_cons_succ]; rfl) ?_
  refine wpAnyH_take (i := 9) (v := .pointer (some ⟨g, 1, none⟩)) (List.getElem?_toArray.trans rfl) (by kernel_rfl) (by kernel_rfl) (by kernel_rfl) (fun _ _ _ h => h) (.inl ⟨rfl, fun w' hS => by simp [go_sem]⟩) hS0 ?_
  refine act_normS (by simp only [Act.put, List.setIfInBounds_toArray, List.set_cons_zero, List.set_cons_succ]; rfl) ?_
  refine wpAnyH_take (i := 10) (v := .int .u64 (f : Int)) (List.getElem?_toArray.trans rfl) (by kernel_rfl) (by kernel_rfl) (by kernel_rfl) (fun _ _ _ h => h) (.inl ⟨rfl, fun w' hS => by have hc := hS; simp [go_sem, hc]⟩) hS0 ?_
  refine act_normS (by simp only [Act.put, List.setIfInBounds_toArray, List.set_cons_zero, List.set_cons_succ]; rfl) ?_
  refine wpAnyH_take (i := 11) (v := .agg #[.int .u64 0, .int .u64 (f : Int)]) (List.getElem?_toArray.trans rfl) (by kernel_rfl) (by kernel_rfl) (by kernel_rfl) (fun _ _ _ h => h) (.inl ⟨rfl, fun w' hS => by simp [go_sem]⟩) hS0 ?_
  refine act_normS (by simp only [Act.put, List.setIfInBounds_toArray, List.set_cons_zero, List.set_cons_succ]; rfl) ?_
  refine wpAnyH_ready (rs := [5, 12]) (by kernel_rfl) (by simp) (AllReadyH.cons (List.getElem?_toArray.trans rfl) (fun K' hK => ?_) (AllReadyH.cons (List.getElem?_toArray.trans rfl) (fun K' hK => ?_) AllReadyH.nil))
  · refine wanted_goS rfl ?_
    go_simp
    refine hK.out _ _ (hS0) (fun _ => ?_)
    clear hK K'
    refine wpAnyH_ready (rs := [12]) (by kernel_rfl) (by simp) (AllReadyH.cons (List.getElem?_toArray.trans rfl) (fun K' hK => ?_) AllReadyH.nil)
    refine wanted_goS rfl ?_
    go_simp
    refine hK.out _ _ (HS3A.out) (fun _ => ?_)
    clear hK K'
    refine wpAnyH_ready (rs := [13]) (by kernel_rfl) (by simp) (AllReadyH.cons (List.getElem?_toArray.trans rfl) (fun K' hK => ?_) AllReadyH.nil)
    refine wanted_goS rfl ?_
    go_simp
    refine HC.out.mono ?_
    rintro e w4 ⟨v, l, rfl, hov, hnl, hfl, hil, hlen, hb4⟩
    obtain ⟨A', c', rfl, hc1, hc2⟩ := hov.form
    have hb24 := HA3.out.trans (hb4.mono (by rw [HWS.out]; omega))
    have hri : RsIn w4 (· ≠ g) A' l := hov.rsIn.mono fun b hb _ => by rw [HWS.out] at hb; omega
    have hs4 := HS3.out.below hb24
    have hS4 := hs4.c1
    have c04 := hs4.c0
    have f04 := hs4.fz 0
    have h5 : HAt (w4.setCell ⟨g, 0, none⟩ (.slice A' l.length c')) g A' l.length c' { s with fl := f, l := l } := hs4.setL hri rfl hc1 hc2 rfl rfl rfl rfl rfl
    have hg5 : w.grownBy (w4.setCell ⟨g, 0, none⟩ (.slice A' l.length c')) (some g) := grown_trans (grown_trans HG3.out (grown_below hb24)) (grown_set _ _ _ _)
    have hS5 := h5.c1
    refine hK.out _ _ (hS4) (fun _ => ?_)
    clear hK K'
    refine wpAnyH_take (i := 14) (v := .pointer (some ⟨g, 0, none⟩)) (List.getElem?_toArray.trans rfl) (by kernel_rfl) (by kernel_rfl) (by kernel_rfl) (fun _ _ _ h => h) (.inl ⟨rfl, fun w' hS => by simp [go_sem]⟩) hS4 ?_
    refine act_normS (by simp only [Act.put, List.setIfInBounds_toArray, List.set_cons_zero, List.set_cons_succ]; rfl) ?_
    refine wpAnyH_take (i := 15) (v := .pointer (some ⟨g, 0, none⟩)) (List.getElem?_toArray.trans rfl) (by kernel_rfl) (by kernel_rfl) (by kernel_rfl) (fun _ _ _ h => h) (.inl ⟨rfl, fun w' hS => by simp [go_sem]⟩) hS4 ?_
    refine act_normS (by simp only [Act.put, List.setIfInBounds_toArray, List.set_cons_zero, List.set_cons_succ]; rfl) ?_
    refine wpAnyH_take (i := 16) (v := .pointer (some ⟨g, 0, none⟩)) (List.getElem?_toArray.trans rfl) (by kernel_rfl) (by kernel_rfl) (by kernel_rfl) (fun _ _ _ h => h) (.inl ⟨rfl, fun w' hS => by simp [go_sem]⟩) hS4 ?_
    refine act_normS (by simp only [Act.put, List.setIfInBounds_toArray, List.set_cons_zero, List.set_cons_succ]; rfl) ?_
    refine wpAnyH_ready (rs := [17]) (by kernel_rfl) (by simp) (AllReadyH.cons (List.getElem?_toArray.trans rfl) (fun K' hK => ?_) AllReadyH.nil)
    refine wanted_goS rfl ?_
    go_simp
    refine hK.out _ _ (hS5) (fun _ => ?_)
    clear hK K'
    refine wpAnyH_done (by kernel_rfl) ?_ _
    have HX : Hid (Shorn s f l) := Lib.hid ⟨hnl, hfl, fun x => by rw [hil]; show (inB s.l x && !inB [(0, f)] x) = _; rw [inB_below]; by_cases h : x < f <;> simp [h] <;> omega⟩
    have H5 := Lib.hid h5
    have HG5 := Lib.hid hg5
    clear h5 hg5 hS5 hS4 c04 f04 hs4 hri hb24 hov hnl hfl hil hb4
    go_wp2
    go_end0
    exact ⟨l, HX.out, rfl, HG5.out, A', _, c', H5.out⟩
  · refine wanted_goS rfl ?_
    go_simp
    refine hK.out _ _ (HS3A.out) (fun _ => ?_)
    clear hK K'
    refine wpAnyH_ready (rs := [5]) (by kernel_rfl) (by simp) (AllReadyH.cons (List.getElem?_toArray.trans rfl) (fun K' hK => ?_) AllReadyH.nil)
    refine wanted_goS rfl ?_
    have c0A := HC0A.out
    go_simp
    refine hK.out _ _ (HS3A.out) (fun _ => ?_)
    clear hK K'
    refine wpAnyH_ready (rs := [13]) (by kernel_rfl) (by simp) (AllReadyH.cons (List.getElem?_toArray.trans rfl) (fun K' hK => ?_) AllReadyH.nil)
    refine wanted_goS rfl ?_
    go_simp
    refine HC.out.mono ?_
    rintro e w4 ⟨v, l, rfl, hov, hnl, hfl, hil, hlen, hb4⟩
    obtain ⟨A', c', rfl, hc1, hc2⟩ := hov.form
    have hb24 := HA3.out.trans (hb4.mono (by rw [HWS.out]; omega))
    have hri : RsIn w4 (· ≠ g) A' l := hov.rsIn.mono fun b hb _ => by rw [HWS.out] at hb; omega
    have hs4 := HS3.out.below hb24
    have hS4 := hs4.c1
    have c04 := hs4.c0
    have f04 := hs4.fz 0
    have h5 : HAt (w4.setCell ⟨g, 0, none⟩ (.slice A' l.length c')) g A' l.length c' { s with fl := f, l := l } := hs4.setL hri rfl hc1 hc2 rfl rfl rfl rfl rfl
    have hg5 : w.grownBy (w4.setCell ⟨g, 0, none⟩ (.slice A' l.length c')) (some g) := grown_trans (grown_trans HG3.out (grown_below hb24)) (grown_set _ _ _ _)
    have hS5 := h5.c1
    refine hK.out _ _ (hS4) (fun _ => ?_)
    clear hK K'
    refine wpAnyH_take (i := 14) (v := .pointer (some ⟨g, 0, none⟩)) (List.getElem?_toArray.trans rfl) (by kernel_rfl) (by kernel_rfl) (by kernel_rfl) (fun _ _ _ h => h) (.inl ⟨rfl, fun w' hS => by simp [go_sem]⟩) hS4 ?_
    refine act_normS (by simp only [Act.put, List.setIfInBounds_toArray, List.set_cons_zero, List.set_cons_succ]; rfl) ?_
    refine wpAnyH_take (i := 15) (v := .pointer (some ⟨g, 0, none⟩)) (List.getElem?_toArray.trans rfl) (by kernel_rfl) (by kernel_rfl) (by kernel_rfl) (fun _ _ _ h => h) (.inl ⟨rfl, fun w' hS => by simp [go_sem]⟩) hS4 ?_
    refine act_normS (by simp only [Act.put, List.setIfInBounds_toArray, List.set_cons_zero, List.set_cons_succ]; rfl) ?_
    refine wpAnyH_take (i := 16) (v := .pointer (some ⟨g, 0, none⟩)) (List.getElem?_toArray.trans rfl) (by kernel_rfl) (by kernel_rfl) (by kernel_rfl) (fun _ _ _ h => h) (.inl ⟨rfl, fun w' hS => by simp [go_sem]⟩) hS4 ?_
    refine act_normS (by simp only [Act.put, List.setIfInBounds_toArray, List.set_cons_zero, List.set_cons_succ]; rfl) ?_
    refine wpAnyH_ready (rs := [17]) (by kernel_rfl) (by simp) (AllReadyH.cons (List.getElem?_toArray.trans rfl) (fun K' hK => ?_) AllReadyH.nil)
    refine wanted_goS rfl ?_
    go_simp
    refine hK.out _ _ (hS5) (fun _ => ?_)
    clear hK K'
    refine wpAnyH_done (by kernel_rfl) ?_ _
    have HX : Hid (Shorn s f l) := Lib.hid ⟨hnl, hfl, fun x => by rw [hil]; show (inB s.l x && !inB [(0, f)] x) = _; rw [inB_below]; by_cases h : x < f <;> simp [h] <;> omega⟩
    have H5 := Lib.hid h5
    have HG5 := Lib.hid hg5
    clear h5 hg5 hS5 hS4 c04 f04 hs4 hri hb24 hov hnl hfl hil hb4
    go_wp2
    go_end0
    exact ⟨l, HX.out, rfl, HG5.out, A', _, c', H5.out⟩

end Go.Proofs.Ytaemfoelhijbjaa
