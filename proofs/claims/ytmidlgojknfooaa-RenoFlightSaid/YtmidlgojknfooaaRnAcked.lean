/-
  Acked.
-/
import Derived.Test.YtmidlgojknfooaaRnAvoid
import Derived.Test.YtmidlgojknfooaaRnMeth
namespace Go.Proofs.Ytmidlgojknfooaa
open Go.RowKit
set_option linter.unusedVariables false

/-- A slice of one size, made anew. -/
theorem one_ns (w : World) (n : Nat) : Ns (w.alloc (.cells #[.int .u64 (n : Int)] 28)) (some ⟨w.heap.size, 0, none⟩) [n] := by
  intro _
  refine ⟨w.heap.size, 0, rfl, by simp, fun i v hi => ?_⟩
  rcases i with _ | i
  · simp at hi
    subst hi
    exact (Wh.cell (Wh.new w 28 #[.int .u64 (n : Int)]) 0).trans rfl
  · simp at hi
theorem one_sx (w : World) (n : Nat) {g : Nat} (hg : g < w.heap.size) : Sx (w.alloc (.cells #[.int .u64 (n : Int)] 28)) g (some ⟨w.heap.size, 0, none⟩) ([n].map cell64) := by
  intro h
  obtain ⟨b, off, he, hb, hc⟩ := one_ns w n h
  simp only [Option.some.injEq, Addr.mk.injEq, and_true] at he
  obtain ⟨rfl, rfl⟩ := he
  exact ⟨_, _, rfl, hb, by omega, hc⟩

set_option maxRecDepth 10000 in
set_option maxHeartbeats 1000000 in
theorem acked_any (w : World) (g t n : Nat) (s : NS) (h : NAt w g s) (ok : s.Ok) (hn : n ≤ mU) :
    Calls Try.prog 10 #[.pointer (some ⟨g, 0, none⟩), .int .u64 (t : Int), .int .u64 (n : Int)] w fun e w' => ∃ s', AckR s t n s' ∧ NGave g s' w e w' := by
  have HO := Lib.hid ok
  have hb0 := (Below.refl w.heap.size w).alloc (Nat.le_refl _) (.cells #[.int .u64 (n : Int)] 28)
  have HG0 := Lib.hid (grown_below (row := some g) hb0)
  have HGO := Lib.hid (gone_any _ g _ 1 1 [n] s (h.below hb0) ok.fl rfl (one_sx w n h.lt) (by decide))
  clear h hb0 ok
  generalize hs1 : ({ s with fl := goneN s.fl [n] } : NS) = s1 at HGO
  have HS1 := Lib.hid hs1
  clear hs1
  go_enter Try.func10, Try.ntmps10
  go_wp2_with fail
  generalize w.alloc (.cells #[.int .u64 (n : Int)] 28) = w0 at *
  refine HGO.out.mono ?_
  rintro e w1 ⟨rfl, hg1, h1⟩
  have HOW := Lib.hid (own_any w1 g t s1 h1)
  have HG1 := Lib.hid (grown_trans HG0.out hg1)
  have H1 := Lib.hid h1
  clear hg1 h1 HGO HG0
  rcases ho : s1.own t with _ | _
  rotate_left
  · rw [ho] at HOW
    have HR : Hid (AckR s t n s1) := Lib.hid (by
      have e : s1.own t = s.own t := by rw [← HS1.out]; rfl
      unfold AckR
      rw [← e, ho, if_pos rfl, HS1.out])
    clear ho
    go_wp2_with (go_at_call 17; refine HOW.out.mono ?_; rintro e w2 ⟨rfl, rfl⟩)
    refine bodyPost_ret (results_none rfl _ _ _) rfl ?_
    exact ⟨s1, HR.out, rfl, HG1.out, H1.out⟩
  · rw [ho] at HOW
    have f4 := H1.out.fz 4
    have c4 := H1.out.c4
    have H2 : Hid (NAt (w1.setCell ⟨g, 4, none⟩ (.bool false)) g { s1 with rc := false }) := Lib.hid (H1.out.set 4 _ rfl)
    have HG2 := Lib.hid (grown_trans HG1.out (grown_set w1 g 4 (.bool false)))
    have HNO : Hid (s.own t = false) := Lib.hid (by rw [← ho, ← HS1.out]; rfl)
    clear ho
    go_upto_region 4 with (go_at_call 17; refine HOW.out.mono ?_; rintro e w2 ⟨rfl, rfl⟩)
    generalize w1.setCell ⟨g, 4, none⟩ (.bool false) = w2 at *
    clear f4 c4 HOW HG1 H1
    obtain ⟨W, hW⟩ : ∃ W, W = s1.wi := ⟨_, rfl⟩
    obtain ⟨T, hT⟩ : ∃ T, T = s1.th := ⟨_, rfl⟩
    have c0 : w2.cell? ⟨g, 0, none⟩ = some (.int .u64 (W : Int)) := by rw [hW]; exact H2.out.c0
    have c1 : w2.cell? ⟨g, 1, none⟩ = some (.int .u64 (T : Int)) := by rw [hT]; exact H2.out.c1
    have HWT : Hid (s.wi = W ∧ s.th = T) := Lib.hid ⟨by rw [hW, ← HS1.out], by rw [hT, ← HS1.out]⟩
    have HW := Lib.hid hW
    have HT := Lib.hid hT
    clear hW hT
    go_quiet (fail)
    have H3 := Lib.hid (H2.out.below (below_drewN (Below.refl w2.heap.size w2) nq))
    have HG3 := Lib.hid (grown_trans HG2.out (grown_below (row := some g) (below_drewN (Below.refl w2.heap.size w2) nq)))
    have c0' : (w2.drewN nq).cell? ⟨g, 0, none⟩ = some (.int .u64 (W : Int)) := by rw [HW.out]; exact H3.out.c0
    clear H2 HG2 c0 c1
    generalize w2.drewN nq = w3 at *
    by_cases hlt : W < T
    · have hb4 := (Below.refl w3.heap.size w3).alloc (Nat.le_refl _) (.cells #[.int .u64 (n : Int)] 28)
      have h4 := H3.out.below hb4
      have HG4 := Lib.hid (grown_trans HG3.out (grown_below (row := some g) hb4))
      have HM := Lib.hid (more_any _ W _ 1 1 [n] rfl (one_ns w3 n) (by decide))
      have HR : Hid (AckR s t n { s1 with rc := false, wi := moreN W [n] }) := Lib.hid (by
        unfold AckR
        rw [HNO.out, if_neg (by decide), if_pos (by have := HWT.out; omega), ← HS1.out, HWT.out.1])
      have H4 := Lib.hid h4
      clear hb4 h4
      go_wp2_with fail
      generalize w3.alloc (.cells #[.int .u64 (n : Int)] 28) = w4 at *
      refine HM.out.mono ?_
      rintro e w5 ⟨rfl, rfl⟩
      have f0 := H4.out.fz 0
      have c0 := H4.out.c0
      have H5 : Hid (NAt (w4.setCell ⟨g, 0, none⟩ (.int .u64 (moreN W [n] : Int))) g { s1 with rc := false, wi := moreN W [n] }) := Lib.hid (H4.out.set 0 _ rfl)
      have HG5 := Lib.hid (grown_trans HG4.out (grown_set w4 g 0 (.int .u64 (moreN W [n] : Int))))
      clear HM H4 HG4 H3 HG3 c0'
      go_wp2
      refine bodyPost_ret (results_none rfl _ _ _) rfl ?_
      exact ⟨_, HR.out, rfl, HG5.out, H5.out⟩
    · have hcn : cN n ≤ mU := by unfold cN mU; omega
      have HAV := Lib.hid (avoid_any w3 g (cN n) _ H3.out (by show s1.wi ≤ mU; rw [← HW.out, ← HWT.out.1]; exact HO.out.wi) (by show 0 < s1.wi; rw [← HW.out, ← HWT.out.1]; have := HO.out.low; omega) (by show s1.ac ≤ mU; rw [← HS1.out]; exact HO.out.ac) hcn)
      clear H3 c0' hcn
      go_wp2_with (go_at_call 16; refine (counted_any w3 n).mono ?_; rintro e w4 ⟨rfl, rfl⟩)
      refine HAV.out.mono ?_
      rintro e w4 ⟨W', A', hr, rfl, hg4, h4⟩
      have HG4 := Lib.hid (grown_trans HG3.out hg4)
      have H4 := Lib.hid h4
      have HR : Hid (AckR s t n { s1 with rc := false, wi := W', ac := A' }) := Lib.hid (by
        unfold AckR
        rw [HNO.out, if_neg (by decide), if_neg (by have := HWT.out; omega)]
        refine ⟨W', A', ?_, by rw [← HS1.out]⟩
        rw [← HS1.out] at hr
        exact hr)
      clear hg4 h4 hr HAV HG3
      go_wp2
      go_end0
      exact ⟨_, HR.out, rfl, HG4.out, H4.out⟩

end Go.Proofs.Ytmidlgojknfooaa
