/-
  The walks through Came, keep, Add.
-/
import Derived.Test.YtaemfoelhijbjaaHeKit
import Derived.Test.YtaemfoelhijbjaaHeMeth
namespace Go.Proofs.Ytaemfoelhijbjaa
open Go.RowKit
set_option linter.unusedVariables false

set_option maxRecDepth 10000 in
set_option maxHeartbeats 1000000 in
theorem came_any (w : World) (g n c pn : Nat) (A : Option Addr) (s : HS) (h : HAt w g A n c s) (ho : s.Ok) :
    Calls Try.prog 10 #[.pointer (some ⟨g, 0, none⟩), .int .u64 (pn : Int)] w fun e w' => e = .returned (.bool (cameS s pn)) ∧ Below w.heap.size w w' := by
  have h0 := h.c0
  have h1 := h.c1
  have HC := Lib.hid (has_one (x := pn) (h.hands (by have := ho.few; have := h.len; omega) ho.fit))
  have HT : Hid (cameS s pn = (decide (pn < s.fl) || inB s.l pn)) := Lib.hid rfl
  generalize cameS s pn = r at *
  generalize inB s.l pn = b at *
  clear h ho
  by_cases hp : pn < s.fl
  · have d1 : decide (pn < s.fl) = true := decide_eq_true hp
    have HR : Hid (r = true) := Lib.hid (by rw [HT.out, d1]; rfl)
    clear hp HT HC
    go_enter Try.func10, Try.ntmps10
    go_wp2
    go_ret
    exact ⟨by rw [HR.out]; rfl, Below.refl _ _⟩
  · have d1 : decide (pn < s.fl) = false := decide_eq_false hp
    have HR : Hid (r = b) := Lib.hid (by rw [HT.out, d1]; rfl)
    clear hp HT
    cases b
    all_goals
      go_enter Try.func10, Try.ntmps10
      go_wp2_with (go_at_call 12; refine HC.out.mono ?_; rintro e w1 ⟨rfl, hb1⟩)
      go_ret
      exact ⟨by rw [HR.out]; rfl, hb1⟩

theorem keptS_small (s : HS) {l : List (Nat × Nat)} (h : l.length ≤ 64) : keptS s l = { s with l := l } := by
  match l, h with
  | [], _ => rfl
  | [_], _ => rfl
  | r :: q :: t, h => exact if_neg (by omega)
theorem keptS_great (s : HS) {r q : Nat × Nat} {t : List (Nat × Nat)} (h : 64 < (r :: q :: t).length) : keptS s (r :: q :: t) = { s with l := q :: t, fl := q.1 } := if_pos h

/-- What keep leaves. -/
def KeepGave (g : Nat) (s : HS) (pn : Nat) (w : World) (e : Ending) (w' : World) : Prop := ∃ l, Grown s pn l ∧ HGave g (keptS s l) w e w'

set_option maxRecDepth 10000 in
set_option maxHeartbeats 1000000 in
theorem keep_any (w : World) (g n c pn : Nat) (A : Option Addr) (s : HS) (h : HAt w g A n c s) (ho : s.Ok) (hp : pn < topN) :
    Calls Try.prog 18 #[.pointer (some ⟨g, 0, none⟩), .int .u64 (pn : Int)] w (KeepGave g s pn w) := by
  have h0 := h.c0
  obtain ⟨q, hq⟩ : ∃ q, q = pn + 1 := ⟨_, rfl⟩
  have hw : IntKind.u64.wrap ((pn : Int) + 1) = (q : Int) := by rw [IntKind.wrap_u64, hq]; unfold topN at hp; omega
  have hn : n ≤ 64 := by have := ho.few; have := h.len; omega
  obtain ⟨W, hW⟩ : ∃ W, W = w.alloc (.cells #[.int .u64 (pn : Int), .int .u64 (q : Int)] 42) := ⟨_, rfl⟩
  have hWs : W.heap.size = w.heap.size + 1 := by rw [hW]; simp
  have hA1 : Below w.heap.size w W := by rw [hW]; exact (Below.refl _ _).alloc (Nat.le_refl _) _
  have hH1 : Hands W W.heap.size A n c s.l := ((h.hands (by omega) ho.fit).below hA1).mono (by omega)
  have hH2 : Hands W W.heap.size (some ⟨w.heap.size, 0, none⟩) 1 1 [(pn, q)] := ⟨rfl, by omega, by rw [hW]; exact (rs_new w (pn, q)).mono (by simp), Nat.le_refl _, by decide, fun x hx => by simp at hx; subst hx; exact ⟨by show pn ≤ topN; omega, by show q ≤ topN; omega⟩⟩
  have HC := Lib.hid (add_any W W.heap.size A (some ⟨w.heap.size, 0, none⟩) n c 1 1 s.l [(pn, q)] hH1 hH2 (Nat.le_refl _))
  have HA1 := Lib.hid hA1
  have HQ := Lib.hid hq
  have HH := Lib.hid h
  have HWS := Lib.hid hWs
  rw [hW] at HC HA1 HWS
  clear h ho hp hq hA1 hH1 hH2 hW hWs hn
  clear W
  go_enter Try.func18, Try.ntmps18
  go_upto_region 1 with (go_at_call 13; refine HC.out.mono ?_; rintro e w1 ⟨v, l, rfl, hov, hnl, hfl, hil, hlen, hb1⟩; obtain ⟨A', c', rfl, hc1, hc2⟩ := hov.form; have f0 := (HH.out.below (HA1.out.trans (hb1.mono (by rw [HWS.out]; omega)))).fz 0; have c0 := (HH.out.below (HA1.out.trans (hb1.mono (by rw [HWS.out]; omega)))).c0; have HOV := Lib.hid hov; have HNL := Lib.hid hnl; have HFL := Lib.hid hfl; have HIL := Lib.hid hil; have HB1 := Lib.hid (HA1.out.trans (hb1.mono (by rw [HWS.out]; omega))); clear hov hnl hfl hil hb1 hlen)
  have hg := HH.out.lt
  have HG : Hid (Grown s pn l) := Lib.hid ⟨HNL.out, HFL.out, fun x => by rw [HIL.out, HQ.out, inB_pn]⟩
  have hri : RsIn w1 (· ≠ g) A' l := HOV.out.rsIn.mono fun b hb _ => by rw [HWS.out] at hb; omega
  have h2 : HAt (w1.setCell ⟨g, 0, none⟩ (.slice A' l.length c')) g A' l.length c' { s with l := l } := (HH.out.below HB1.out).setL hri rfl hc1 hc2 rfl rfl rfl rfl rfl
  have hg2 : w.grownBy (w1.setCell ⟨g, 0, none⟩ (.slice A' l.length c')) (some g) := grown_trans (grown_below HB1.out) (grown_set _ _ _ _)
  clear h0 hw HC HA1 HQ HWS HOV HNL HFL HIL HB1 f0 c0 hri HH
  generalize w1.setCell ⟨g, 0, none⟩ (.slice A' l.length c') = w2 at *
  have c0 := h2.c0
  have f0 := h2.fz 0
  have f1 := h2.fz 1
  have c1 := h2.c1
  have HS2 := Lib.hid h2
  have HG2 := Lib.hid hg2
  unfold maxLen at hc2
  clear hg2
  by_cases h64 : 64 < l.length
  · obtain ⟨r, y, t, rfl⟩ : ∃ r y t, l = r :: y :: t := by
      match l, h64 with
      | r :: y :: t, _ => exact ⟨r, y, t, rfl⟩
    obtain ⟨b, off, rfl, hbg, hbl, hcc⟩ := h2.reads.at_ (by rw [h2.len]; omega)
    have hcy := (hcc 1 y rfl).1
    have hrt := h2.reads.tail
    have HE := Lib.hid (keptS_great s h64)
    have HT := Lib.hid (HS2.out.setL (s' := { s with l := y :: t }) (n' := t.length + 1) (c' := c' - 1) hrt rfl (by simp at hc1; omega) (by unfold maxLen; omega) rfl rfl rfl rfl rfl)
    have hcy2 : (w2.setCell ⟨g, 0, none⟩ (.slice (some ⟨b, off + 2, none⟩) (t.length + 1) (c' - 1))).cell? ⟨b, off + 2, none⟩ = some (.int .u64 (y.1 : Int)) := by
      rw [World.cell?_setCell_other _ _ _ _ (by simp)]
      exact hcy
    have HT2 := Lib.hid (HT.out.set (s' := { s with l := y :: t, fl := y.1 }) 1 (.int .u64 (y.1 : Int)) rfl rfl)
    obtain ⟨n', hn'⟩ : ∃ n', n' = (r :: y :: t).length := ⟨_, rfl⟩
    have hnt : t.length + 1 = n' - 1 := by rw [hn']; simp
    rw [hnt] at HT HT2 hcy2
    rw [← hn'] at h64 hc1 c0 ⊢
    have d1 : decide ((n' : Int) > 64) = true := decide_eq_true (by omega)
    have HNT := Lib.hid hnt
    have h1n : 1 ≤ n' := by omega
    have hcne : ¬ c' = 1 := by omega
    have hlt : 0 < n' - 1 := by omega
    clear hrt hcc h2 hn' hnt h64
    go_wp2
    go_end0
    exact ⟨_, HG.out, rfl, grown_trans HG2.out (grown_trans (grown_set _ _ _ _) (grown_set _ _ _ _)), _, _, _, by rw [HE.out]; exact HT2.out⟩
  · have d1 : decide ((l.length : Int) > 64) = false := decide_eq_false (by omega)
    have HE := Lib.hid (keptS_small s (show l.length ≤ 64 by omega))
    clear h64 h2
    go_wp2
    go_end0
    exact ⟨l, HG.out, rfl, HG2.out, A', _, c', by rw [HE.out]; exact HS2.out⟩

end Go.Proofs.Ytaemfoelhijbjaa
