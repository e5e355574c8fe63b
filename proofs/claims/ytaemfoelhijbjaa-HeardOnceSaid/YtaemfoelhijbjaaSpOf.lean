/-
  The walk through span.neatOf.
-/
import Derived.Test.YtaemfoelhijbjaaSpNeat
import Derived.Test.YtaemfoelhijbjaaSpSort
import Derived.StillTailTactics
namespace Go.Proofs.Ytaemfoelhijbjaa
open Go.RowKit
set_option linter.unusedVariables false

theorem fit_of {l : List (Nat × Nat)} (hn : NeatL l) (h : ∀ n, inB l n = true → n < topN) : FitL l := by
  intro r hr
  have h1 := hn.1 r hr
  have := h (r.2 - 1) (inB_iff.2 ⟨r, hr, by omega, by omega⟩)
  omega

/-- A neat list of the same numbers, somewhere in memory. -/
def NeatGave (B : Nat) (l : List (Nat × Nat)) (w : World) (e : Ending) (w' : World) : Prop :=
  ∃ A c l', e = .returned (.slice A l'.length c) ∧ l'.length ≤ c ∧ c ≤ maxLen ∧ RsIn w' (fun b => b < B ∨ w.heap.size ≤ b) A l' ∧ NeatL l' ∧ FitL l' ∧ (∀ n, inB l' n = inB l n) ∧ l'.length ≤ l.length ∧ Below w.heap.size w w'

theorem rs_new_at (w : World) (r : Nat × Nat) (g : Nat) (hg : g = w.heap.size) : Rs (w.alloc (.cells #[.int .u64 (r.1 : Int), .int .u64 (r.2 : Int)] 42)) (g + 1) (some ⟨g, 0, none⟩) [r] := by
  subst hg
  exact rs_new w r

theorem inB_keep (l : List (Nat × Nat)) (n : Nat) : inB (l.filter keepR) n = inB l n := by
  rw [Bool.eq_iff_iff, inB_iff, inB_iff]
  constructor
  · rintro ⟨r, hr, h⟩
    exact ⟨r, (List.mem_filter.1 hr).1, h⟩
  · rintro ⟨r, hr, h⟩
    refine ⟨r, List.mem_filter.2 ⟨hr, ?_⟩, h⟩
    simp [keepR]
    omega

theorem inB_perm {a b : List (Nat × Nat)} (h : a.Perm b) (n : Nat) : inB a n = inB b n := by
  rw [Bool.eq_iff_iff, inB_iff, inB_iff]
  constructor
  · rintro ⟨r, hr, hh⟩
    exact ⟨r, h.mem_iff.1 hr, hh⟩
  · rintro ⟨r, hr, hh⟩
    exact ⟨r, h.mem_iff.2 hr, hh⟩

theorem merge_take {R : List (Nat × Nat)} {k : Nat} {r : Nat × Nat} (h : R[k]? = some r) : mergeL (R.take (k + 1)) = joinR (mergeL (R.take k)) r := by
  rw [List.take_add_one, h]
  exact merge_snoc _ _

theorem mergeL_length (l : List (Nat × Nat)) : (mergeL l).length ≤ l.length := by
  have key : ∀ (l acc : List (Nat × Nat)), (l.foldl joinR acc).length ≤ acc.length + l.length := by
    intro l
    induction l with
    | nil => intro acc; simp
    | cons r l ih =>
      intro acc
      have h1 := ih (joinR acc r)
      have h2 := joinR_length acc r
      rw [List.foldl_cons, List.length_cons]
      omega
  simpa [mergeL] using key l []

set_option maxRecDepth 10000 in
set_option maxHeartbeats 2000000 in
theorem neatOf_in (b off len c B : Nat) (l : List (Nat × Nat)) (w : World) (hB : B ≤ w.heap.size) (hb : b < B) (hl : l.length = len) (hlen : len ≤ 16777215) (h0 : 0 < len) (hr : Rs w B (some ⟨b, off, none⟩) l) (hcl : len ≤ c) (hcm : c ≤ maxLen) (hfit : FitL l) :
    Calls Try.prog 21 #[.slice (some ⟨b, off, none⟩) len c] w (NeatGave B l w) := by
  have HN := Lib.hid (neat_any (some ⟨b, off, none⟩) len c l w B hl (by omega) hr hB)
  have HR := Lib.hid hr
  have HL := Lib.hid hl
  have HF := Lib.hid hfit
  have HC := Lib.hid hcm
  unfold maxLen at hcm
  by_cases hneat : NeatL l
  · have HNE := Lib.hid hneat
    clear hr hl hfit hneat
    go_enter Try.func21, Try.ntmps21
    go_wp2_with (go_at_call 14; refine HN.out.mono ?_; rintro e w1 ⟨hy, _, hb1⟩; obtain rfl := hy HNE.out; have HB1 := Lib.hid hb1; clear hb1 hy)
    go_ret
    refine ⟨some ⟨b, off, none⟩, c, l, ?_, ?_, HC.out, RsIn.of (HR.out.below (HB1.out.mono hB)) (Nat.le_trans hB HB1.out.size) (fun b h => .inl h), HNE.out, HF.out, fun _ => rfl, Nat.le_refl _, HB1.out⟩
    · rw [HL.out]
      rfl
    · rw [HL.out]
      exact hcl
  · have HNE := Lib.hid hneat
    clear hr hl hfit hneat
    go_enter Try.func21, Try.ntmps21
    go_wp2_with (go_at_call 14; refine HN.out.mono ?_; rintro e w1 ⟨_, hy, hb1⟩; obtain rfl := hy HNE.out; have HB1 := Lib.hid hb1; clear hb1 hy)
    have hr1 := HR.out.below (HB1.out.mono hB)
    have hcon := clone_any b off c l w1 (by have := HB1.out.size; omega) (hr1.mono (Nat.le_trans hB HB1.out.size)) (by rw [HL.out]; omega)
    rw [HL.out] at hcon
    refine hcon.mono ?_
    rintro e w2 ⟨v, rfl, ho2, hb2⟩
    obtain ⟨g, c2, cur, rfl, hg1, _⟩ := ownR_some ho2 (by rw [HL.out]; exact h0)
    have hrow : RowAt w2 w1.heap.size g len c2 l := by
      unfold OwR at ho2
      rw [HL.out] at ho2
      exact ho2
    have hB2 : Below w.heap.size w w2 := HB1.out.trans (hb2.mono HB1.out.size)
    rw [HL.out]
    clear hcon hr1 ho2 hb2
    have HROW := Lib.hid hrow
    have HB2 := Lib.hid hB2
    have hgw : w.heap.size ≤ g := Nat.le_trans HB1.out.size hg1
    clear hrow hB2
    go_wp2_with fail
    refine (delete_any w1.heap.size g len c2 l w2 HROW.out HL.out h0 (by omega)).mono ?_
    rintro e w3 ⟨rfl, ho3, hg3⟩
    go_wp2_with fail
    refine (sort_any w1.heap.size g (l.filter keepR).length c2 (l.filter keepR) w3 ho3 rfl (Nat.le_trans (List.length_filter_le _ _) (by rw [HL.out]; omega))).mono ?_
    rintro e w4 ⟨rfl, R, hperm, hsorted, ho4, hg4⟩
    have hB4 : Below w.heap.size w w4 := (HB2.out.grown hg3 HB2.out.size (fun q hq => by have := Option.some.inj hq; omega)).grown hg4 (by have := HB2.out.size; have := hg3.size; omega) (fun q hq => by have := Option.some.inj hq; omega)
    obtain ⟨n, hn⟩ : ∃ n, n = (l.filter keepR).length := ⟨_, rfl⟩
    rw [← hn] at ho4 ⊢
    have hRl : R.length = n := by rw [hn]; exact hperm.length_eq
    have hnl : n ≤ len := by rw [hn, ← HL.out]; exact List.length_filter_le _ _
    have hR1 : ∀ r ∈ R, r.1 < r.2 := fun r hr => by
      have := (List.mem_filter.1 (hperm.mem_iff.1 hr)).2
      simp [keepR] at this
      exact this
    have HM := Lib.hid (merge_neat R.length R rfl hR1 hsorted)
    have HIN : Hid (∀ x, inB R x = inB l x) := Lib.hid fun x => (inB_perm hperm x).trans (inB_keep l x)
    have hRs : Rs w4 w4.heap.size (some ⟨g, 0, none⟩) R := Rs.of_own ho4
    have hg4' := (ho4.wh.choose_spec.1).lt
    have HRS := Lib.hid hRs
    have HB4 := Lib.hid hB4
    have HRL := Lib.hid hRl
    have HR1 := Lib.hid hR1
    have HSO := Lib.hid hsorted
    have hs4 : w.heap.size ≤ w4.heap.size := HB4.out.size
    clear ho3 hg3 ho4 hg4 hperm hRs hB4 hRl hR1 hsorted hn HROW HB2 HB1 HN hg1
    have HG : Hid (g < w4.heap.size) := Lib.hid hg4'
    clear hg4'
    go_wp2
    go_loopw [4, 18] (fun v s18 wr => ∃ k : Nat, k ≤ n ∧ s18 = .int .i64 k ∧ Hid (OwR w4.heap.size wr v (mergeL (R.take k))) ∧ Hid (Below w4.heap.size w4 wr)) (fun _ s18 _ => n - (intOf s18).toNat)
    case atStart => exact ⟨0, Nat.zero_le _, rfl, Lib.hid (by simpa [mergeL] using OwR.nil w4.heap.size w4), Lib.hid (Below.refl _ _)⟩
    case round =>
      obtain ⟨k, hk, rfl, hO, hBk⟩ := hrel
      by_cases hlt : k < n
      · obtain ⟨r, hrk⟩ : ∃ r, R[k]? = some r := ⟨_, List.getElem?_eq_getElem (by rw [HRL.out]; exact hlt)⟩
        have hlr := mergeL_length (R.take k)
        have hlr2 : (mergeL (R.take k)).length ≤ k := Nat.le_trans hlr (List.length_take_le _ _)
        obtain ⟨b', off', e', hb', hcc⟩ := HRS.out.at_ (by rw [HRL.out]; omega)
        simp only [Option.some.injEq, Addr.mk.injEq, and_true] at e'
        obtain ⟨rfl, rfl⟩ := e'
        have hcr := hcc k r hrk
        simp only [Nat.zero_add] at hcr
        have hc1 := (hBk.out.cell (p := ⟨g, k * 2, none⟩) hb').trans hcr.1
        have hc2 := (hBk.out.cell (p := ⟨g, k * 2 + 1, none⟩) hb').trans hcr.2
        have HRK := Lib.hid hrk
        have hsz : w4.heap.size ≤ wr.heap.size := hBk.out.size
        have d1 : decide (k < n) = true := decide_eq_true hlt
        clear hlr hcc hcr hb' hrk
        have HX0 := Lib.hid (Wh.new wr 42 #[.int .u64 (r.1 : Int), .int .u64 (r.2 : Int)])
        have HO1 := Lib.hid (hO.out.alloc (.cells #[.int .u64 (r.1 : Int), .int .u64 (r.2 : Int)] 42))
        have HB1 := Lib.hid (hBk.out.alloc hsz (.cells #[.int .u64 (r.1 : Int), .int .u64 (r.2 : Int)] 42))
        have hMT := merge_take HRK.out
        generalize mergeL (R.take k) = acc at *
        have HMT := Lib.hid hMT
        clear hMT hO hBk
        have hx0 : (wr.alloc (.cells #[.int .u64 (r.1 : Int), .int .u64 (r.2 : Int)] 42)).cell? ⟨wr.heap.size, 0, none⟩ = some (.int .u64 (r.1 : Int)) := (HX0.out.cell 0).trans rfl
        have hx1 : (wr.alloc (.cells #[.int .u64 (r.1 : Int), .int .u64 (r.2 : Int)] 42)).cell? ⟨wr.heap.size, 1, none⟩ = some (.int .u64 (r.2 : Int)) := (HX0.out.cell 1).trans rfl
        rcases List.eq_nil_or_concat acc with rfl | ⟨i, z, rfl⟩
        · have HJ : Hid (joinR [] r = [] ++ [r]) := Lib.hid rfl
          obtain ⟨A, cA, rfl, _, _⟩ := HO1.out.form
          simp only [List.length_nil] at *
          go_wp2
          go_quiet (fail)
          have HO3 := Lib.hid ((HO1.out.below (below_drewN (Below.refl _ _) nq)).alloc (.cells #[.int .u64 (r.1 : Int), .int .u64 (r.2 : Int)] 42))
          have HR3 := Lib.hid (rs_new_at ((wr.alloc (.cells #[.int .u64 (r.1 : Int), .int .u64 (r.2 : Int)] 42)).drewN nq) r (wr.heap.size + 1) (by simp))
          have HB3 := Lib.hid (((below_drewN HB1.out nq)).alloc (by simp; omega) (.cells #[.int .u64 (r.1 : Int), .int .u64 (r.2 : Int)] 42))
          go_wp2_with (at_builtin; go_loud (refine wpList_app_rg rfl _ _ rfl w4.heap.size (.slice A 0 cA) [] rfl HO3.out _ _ _ _ [r] rfl HR3.out rfl (by simp) (by simp; omega) ?_); intro v5 w5 ho5 hg5 _)
          go_roundw
          case rel => exact ⟨k + 1, by omega, by go_num, Lib.hid (by rw [HMT.out]; exact ho5), Lib.hid (HB3.out.grown hg5 (by simp; omega) (fun q hq => (HO3.out.ge hq).1))⟩
          case measure => simp [intOf]; omega
        · rw [List.concat_eq_append] at *
          obtain ⟨m, hmi⟩ : ∃ m, m = i.length := ⟨_, rfl⟩
          have hm : (i ++ [z]).length = m + 1 := by simp [hmi]
          have hm2 : m < k := by omega
          have d0 : decide ((m : Int) < 0) = false := decide_eq_false (by omega)
          have d3 : (m : Int) < (m : Int) + 1 := by omega
          obtain ⟨gn, cA, cur', rfl, hgn, hnc, hcm', hwn, hsz', _⟩ := ownR_some HO1.out (by omega)
          have hz : (i ++ [z])[m]? = some z := by simp [hmi]
          have hzc := (RowAt.cell (n := (i ++ [z]).length) HO1.out hz).2
          have hfz := hwn.frozen (m * 2 + 1)
          have hgl := hwn.lt
          rw [hm] at HO1 hnc ⊢
          unfold maxLen at hcm'
          have HMI := Lib.hid hmi
          have HM1 := Lib.hid hm
          clear hwn hz hsz' hmi hm
          by_cases hlt2 : z.2 < r.1
          · have HJ : Hid (joinR (i ++ [z]) r = (i ++ [z]) ++ [r]) := Lib.hid (by simp [joinR, hlt2])
            have t2 : decide (z.2 < r.1) = true := decide_eq_true hlt2
            go_wp2
            go_quiet (fail)
            have HO3 := Lib.hid ((HO1.out.below (below_drewN (Below.refl _ _) nq)).alloc (.cells #[.int .u64 (r.1 : Int), .int .u64 (r.2 : Int)] 42))
            have HR3 := Lib.hid (rs_new_at ((wr.alloc (.cells #[.int .u64 (r.1 : Int), .int .u64 (r.2 : Int)] 42)).drewN nq) r (wr.heap.size + 1) (by simp))
            have HB3 := Lib.hid (((below_drewN HB1.out nq)).alloc (by simp; omega) (.cells #[.int .u64 (r.1 : Int), .int .u64 (r.2 : Int)] 42))
            go_wp2_with (at_builtin; refine wpList_app_rg rfl _ _ rfl w4.heap.size (.slice (some ⟨gn, 0, none⟩) (m + 1) cA) (i ++ [z]) rfl HO3.out _ _ _ _ [r] rfl HR3.out rfl (by rw [HM1.out]; omega) (by simp; omega) ?_; intro v5 w5 ho5 hg5 _)
            go_roundw
            case rel => exact ⟨k + 1, by omega, by go_num, Lib.hid (by rw [HMT.out, HJ.out]; exact ho5), Lib.hid (HB3.out.grown hg5 (by simp; omega) (fun q hq => (HO3.out.ge hq).1))⟩
            case measure => simp [intOf]; omega
          · have HJ : Hid (joinR (i ++ [z]) r = i ++ [(z.1, max z.2 r.2)]) := Lib.hid (joinR_old hlt2)
            have t2 : decide (z.2 < r.1) = false := decide_eq_false hlt2
            go_wp2
            go_quiet (fail)
            have hw0 := below_drewN (Below.refl (wr.alloc (.cells #[.int .u64 (r.1 : Int), .int .u64 (r.2 : Int)] 42)).heap.size (wr.alloc (.cells #[.int .u64 (r.1 : Int), .int .u64 (r.2 : Int)] 42))) nq
            have hy1 := (hw0.cell (p := ⟨gn, m * 2 + 1, none⟩) hgl).trans hzc
            have hy2 := (hw0.cell (p := ⟨wr.heap.size, 1, none⟩) HX0.out.lt).trans hx1
            have hy3 := (hw0.frozen (p := ⟨gn, m * 2 + 1, none⟩) hgl).trans hfz
            have HO3 := Lib.hid (HO1.out.below hw0)
            have HB3 := Lib.hid (HB1.out.trans (hw0.mono (by simp; omega)))
            clear hx0 hx1 hzc hfz hgl hw0 HO1 HB1 HX0
            generalize (wr.alloc (.cells #[.int .u64 (r.1 : Int), .int .u64 (r.2 : Int)] 42)).drewN nq = W3 at *
            go_wp2
            go_still_tail 12, (by kernel_rfl)
            go_wp2
            go_roundw
            case rel =>
              have hmx : max (z.2 : Int) (r.2 : Int) = ((max z.2 r.2 : Nat) : Int) := by omega
              have h1 := HO3.out
              unfold OwR at h1
              rw [HM1.out] at h1
              have h2 := ownR_set h1 m z (max z.2 r.2) (by rw [HMI.out]; simp)
              have h3 : (i ++ [z]).set m (z.1, max z.2 r.2) = i ++ [(z.1, max z.2 r.2)] := by rw [HMI.out]; simp
              rw [h3] at h2
              rw [hmx]
              refine ⟨k + 1, by omega, by go_num, Lib.hid ?_, Lib.hid ((HB3.out.grown (grown_set _ _ _ _) HB3.out.size (fun q hq => by have := Option.some.inj hq; omega)).drew)⟩
              rw [HMT.out, HJ.out]
              refine OwR.below ?_ (Below.refl _ _).drew
              unfold OwR
              rw [show (i ++ [(z.1, max z.2 r.2)]).length = m + 1 by simp [HMI.out]]
              exact h2
            case measure => simp [intOf]; omega
      · obtain rfl : k = n := by omega
        have d1 : decide (k < k) = false := decide_eq_false (by omega)
        have hO' := hO.out
        rw [List.take_of_length_le (by rw [HRL.out]; exact Nat.le_refl _)] at hO'
        obtain ⟨A, c', rfl, hc', hm'⟩ := hO'.form
        have HO := Lib.hid hO'
        have hHM := HM.out
        have hll : (mergeL R).length ≤ k := by rw [← HRL.out]; exact mergeL_length R
        have HIM : Hid (∀ x, inB (mergeL R) x = inB l x) := Lib.hid fun x => (hHM.2.1 x).trans (HIN.out x)
        have HNM : Hid (NeatL (mergeL R)) := Lib.hid hHM.1
        generalize mergeL R = l' at *
        have HBW := Lib.hid (HB4.out.trans (hBk.out.mono hs4))
        clear hO hO' hHM HM
        go_wp2
        go_ret
        refine ⟨A, c', l', rfl, hc', hm', HO.out.rsIn.mono (fun b h _ => .inr (Nat.le_trans hs4 h)), HNM.out, fit_of HNM.out (fun n hn => fit_in HF.out (by rw [← HIM.out]; exact hn)), HIM.out, ?_, HBW.out⟩
        rw [HL.out]
        omega

theorem neatOf_any (A : Option Addr) (len c : Nat) (l : List (Nat × Nat)) (w : World) (B : Nat) (hl : l.length = len) (hlen : len ≤ 16777215) (hr : Rs w B A l) (hB : B ≤ w.heap.size) (hcl : len ≤ c) (hcm : c ≤ maxLen) (hfit : FitL l) :
    Calls Try.prog 21 #[.slice A len c] w (NeatGave B l w) := by
  by_cases h0 : l = []
  · subst h0
    simp only [List.length_nil] at hl
    subst hl
    have HN := Lib.hid (neat_zero A c w)
    have HC := Lib.hid hcm
    clear hr hfit hcm
    go_enter Try.func21, Try.ntmps21
    go_wp2_with (go_at_call 14; refine HN.out.mono ?_; rintro e w1 ⟨rfl, rfl⟩)
    go_ret
    exact ⟨A, c, [], rfl, Nat.zero_le _, HC.out, RsIn.nil _ _ _, neat_nil, fun _ h => (by cases h), fun _ => rfl, Nat.le_refl _, Below.refl _ _⟩
  · obtain ⟨b, off, rfl, hb, hc⟩ := hr h0
    exact neatOf_in b off len c B l w hB hb hl hlen (by rw [← hl]; exact List.length_pos_iff.2 h0) hr hcl hcm hfit

end Go.Proofs.Ytaemfoelhijbjaa
