/-
  The walk through hostlerref11.Ends: made by tools/gen_spends.py.
-/
import Derived.Test.YtkmnhlcjeebejaaSpPut
namespace Go.Proofs.Ytkmnhlcjeebejaa
open Go.RowKit
set_option linter.unusedVariables false

/-- Does a range of the list begin or end there? -/
def endB (l : List (Nat × Nat)) (x : Nat) : Prop := ∃ r ∈ l, x = r.1 ∨ x = r.2
theorem endB_nil (x : Nat) : ¬ endB [] x := by rintro ⟨r, hr, _⟩; cases hr
theorem endB_take {l : List (Nat × Nat)} {k : Nat} {r : Nat × Nat} (h : l[k]? = some r) (x : Nat) : endB (l.take (k + 1)) x ↔ (endB (l.take k) x ∨ x = r.1) ∨ x = r.2 := by
  unfold endB
  rw [List.take_add_one, h]
  constructor
  · rintro ⟨s, hs, hx⟩
    rcases List.mem_append.1 hs with h1 | h1
    · exact .inl (.inl ⟨s, h1, hx⟩)
    · simp at h1
      subst h1
      rcases hx with hx | hx
      · exact .inl (.inr hx)
      · exact .inr hx
  · rintro ((⟨s, hs, hx⟩ | hx) | hx)
    · exact ⟨s, List.mem_append_left _ hs, hx⟩
    · exact ⟨r, List.mem_append_right _ (by simp), .inl hx⟩
    · exact ⟨r, List.mem_append_right _ (by simp), .inr hx⟩
theorem RisesAt.congr {p q : Nat → Prop} {m m' : Nat} {w : World} {v : Value} (h : RisesAt p m w v) (hq : ∀ x, p x ↔ q x) (hm : m ≤ m') : RisesAt q m' w v := by
  obtain ⟨A, c, l, h1, h2, h3, h4, h5, h6, h7⟩ := h
  exact ⟨A, c, l, h1, h2, h3, h4, h5, fun x => (h6 x).trans (hq x), by omega⟩

set_option maxRecDepth 10000 in
set_option maxHeartbeats 2000000 in
theorem ends2_any (A1 A2 : Option Addr) (n1 c1 n2 c2 : Nat) (a b : List (Nat × Nat)) (w : World) (ha : a.length = n1) (hb : b.length = n2) (hl1 : n1 ≤ 10000) (hl2 : n2 ≤ 10000) (hr1 : Rs w w.heap.size A1 a) (hr2 : Rs w w.heap.size A2 b) :
    Calls Try.prog 31 #[.slice A1 n1 c1, .slice A2 n2 c2] w fun e w' => ∃ v, e = .returned v ∧ RisesAt (fun x => endB a x ∨ endB b x) 40000 w' v ∧ Below w.heap.size w w' := by
  have HA := Lib.hid ha
  have HB := Lib.hid hb
  have HR1 := Lib.hid hr1
  have HR2 := Lib.hid hr2
  clear ha hb hr1 hr2
  go_enter Try.func31, Try.ntmps31
  go_wp2
  go_loopw [5, 6] (fun sv si wr => ∃ k : Nat, k ≤ n1 ∧ si = .int .i64 k ∧ Hid (RisesAt (fun x => endB (a.take k) x) (2 * k) wr sv) ∧ Hid (Below w.heap.size w wr)) (fun _ si _ => n1 - (intOf si).toNat)
  case atStart => exact ⟨0, Nat.zero_le _, rfl, Lib.hid (RisesAt.nil _ |>.congr (fun x => by simp [endB]) (Nat.zero_le _)), Lib.hid (Below.refl _ _)⟩
  case round =>
    obtain ⟨k, hk, rfl, hrs, hbw⟩ := hrel
    by_cases hlt : k < n1
    · obtain ⟨r, hr⟩ : ∃ r, a[k]? = some r := ⟨_, List.getElem?_eq_getElem (by rw [HA.out]; exact hlt)⟩
      obtain ⟨g, off, rfl, hg, hcc⟩ := HR1.out.at_ (by rw [HA.out]; omega)
      have hx1 := (hbw.out.cell (p := ⟨g, off + k * 2, none⟩) hg).trans (hcc k r hr).1
      have hx2 := (hbw.out.cell (p := ⟨g, off + k * 2 + 1, none⟩) hg).trans (hcc k r hr).2
      have hgr : g < wr.heap.size := Nat.lt_of_lt_of_le hg hbw.out.size
      have HET := Lib.hid (endB_take hr)
      have d1 : decide (k < n1) = true := decide_eq_true hlt
      have hlti : (k : Int) < (n1 : Int) := by omega
      clear hcc hr
      go_wp2
      have hG : SinceS wr wr.drew := (Below.refl _ _).drew
      refine wp_region_held_drew (S := fun w' => SinceS wr w') (by kernel_rfl) hG (fun _ => ?_)
      refine wpAnyH_take (i := 0) (v := u5) (List.getElem?_toArray.trans rfl) (by kernel_rfl) (by kernel_rfl) (by kernel_rfl) (fun _ _ _ h => h) (.inl ⟨rfl, fun w' hS => rfl⟩) hG ?_
      refine act_normS (by simp only [Act.put, List.setIfInBounds_toArray, List.set_cons_zero, List.set_cons_succ]; rfl) ?_
      refine wpAnyH_take (i := 1) (v := .slice (some ⟨g, off, none⟩) n1 c1) (List.getElem?_toArray.trans rfl) (by kernel_rfl) (by kernel_rfl) (by kernel_rfl) (fun _ _ _ h => h) (.inl ⟨rfl, fun w' hS => rfl⟩) hG ?_
      refine act_normS (by simp only [Act.put, List.setIfInBounds_toArray, List.set_cons_zero, List.set_cons_succ]; rfl) ?_
      refine wpAnyH_take (i := 2) (v := .int .i64 (k : Int)) (List.getElem?_toArray.trans rfl) (by kernel_rfl) (by kernel_rfl) (by kernel_rfl) (fun _ _ _ h => h) (.inl ⟨rfl, fun w' hS => rfl⟩) hG ?_
      refine act_normS (by simp only [Act.put, List.setIfInBounds_toArray, List.set_cons_zero, List.set_cons_succ]; rfl) ?_
      refine wpAnyH_take (i := 3) (v := .pointer (some ⟨g, off + k * 2, none⟩)) (List.getElem?_toArray.trans rfl) (by kernel_rfl) (by kernel_rfl) (by kernel_rfl) (fun _ _ _ h => h) (.inl ⟨rfl, fun w' hS => by simp [go_sem, hlt]⟩) hG ?_
      refine act_normS (by simp only [Act.put, List.setIfInBounds_toArray, List.set_cons_zero, List.set_cons_succ]; rfl) ?_
      refine wpAnyH_take (i := 4) (v := .pointer (some ⟨g, off + k * 2, none⟩)) (List.getElem?_toArray.trans rfl) (by kernel_rfl) (by kernel_rfl) (by kernel_rfl) (fun _ _ _ h => h) (.inl ⟨rfl, fun w' hS => by simp [go_sem]⟩) hG ?_
      refine act_normS (by simp only [Act.put, List.setIfInBounds_toArray, List.set_cons_zero, List.set_cons_succ]; rfl) ?_
      refine wpAnyH_take (i := 5) (v := .int .u64 (r.1 : Int)) (List.getElem?_toArray.trans rfl) (by kernel_rfl) (by kernel_rfl) (by kernel_rfl) (fun _ _ _ h => h) (.inl ⟨rfl, fun w' hS => by have hc := SinceS.cell hS (p := ⟨g, off + k * 2, none⟩) hgr hx1; simp [go_sem, hc]⟩) hG ?_
      refine act_normS (by simp only [Act.put, List.setIfInBounds_toArray, List.set_cons_zero, List.set_cons_succ]; rfl) ?_
      refine wpAnyH_take (i := 7) (v := .slice (some ⟨g, off, none⟩) n1 c1) (List.getElem?_toArray.trans rfl) (by kernel_rfl) (by kernel_rfl) (by kernel_rfl) (fun _ _ _ h => h) (.inl ⟨rfl, fun w' hS => rfl⟩) hG ?_
      refine act_normS (by simp only [Act.put, List.setIfInBounds_toArray, List.set_cons_zero, List.set_cons_succ]; rfl) ?_
      refine wpAnyH_take (i := 8) (v := .int .i64 (k : Int)) (List.getElem?_toArray.trans rfl) (by kernel_rfl) (by kernel_rfl) (by kernel_rfl) (fun _ _ _ h => h) (.inl ⟨rfl, fun w' hS => rfl⟩) hG ?_
      refine act_normS (by simp only [Act.put, List.setIfInBounds_toArray, List.set_cons_zero, List.set_cons_succ]; rfl) ?_
      refine wpAnyH_take (i := 9) (v := .pointer (some ⟨g, off + k * 2, none⟩)) (List.getElem?_toArray.trans rfl) (by kernel_rfl) (by kernel_rfl) (by kernel_rfl) (fun _ _ _ h => h) (.inl ⟨rfl, fun w' hS => by simp [go_sem, hlt]⟩) hG ?_
      refine act_normS (by simp only [Act.put, List.setIfInBounds_toArray, List.set_cons_zero, List.set_cons_succ]; rfl) ?_
      refine wpAnyH_take (i := 10) (v := .pointer (some ⟨g, off + k * 2 + 1, none⟩)) (List.getElem?_toArray.trans rfl) (by kernel_rfl) (by kernel_rfl) (by kernel_rfl) (fun _ _ _ h => h) (.inl ⟨rfl, fun w' hS => by simp [go_sem]⟩) hG ?_
      refine act_normS (by simp only [Act.put, List.setIfInBounds_toArray, List.set_cons_zero, List.set_cons_succ]; rfl) ?_
      refine wpAnyH_take (i := 11) (v := .int .u64 (r.2 : Int)) (List.getElem?_toArray.trans rfl) (by kernel_rfl) (by kernel_rfl) (by kernel_rfl) (fun _ _ _ h => h) (.inl ⟨rfl, fun w' hS => by have hc := SinceS.cell hS (p := ⟨g, off + k * 2 + 1, none⟩) hgr hx2; simp [go_sem, hc]⟩) hG ?_
      refine act_normS (by simp only [Act.put, List.setIfInBounds_toArray, List.set_cons_zero, List.set_cons_succ]; rfl) ?_
      refine wpAnyH_ready (rs := [6]) (by kernel_rfl) (by simp) (AllReadyH.cons (List.getElem?_toArray.trans rfl) (fun K' hK => ?_) AllReadyH.nil)
      refine wanted_goS rfl ?_
      go_simp
      refine (put_any _ _ _ r.1 _ (hrs.out.below hG) (by omega)).mono ?_
      rintro e wa ⟨va, rfl, hra, hba⟩
      have hsa := SinceS.trans hG hba
      refine hK.out _ _ (hsa) (fun _ => ?_)
      clear hK K'
      refine wpAnyH_ready (rs := [12]) (by kernel_rfl) (by simp) (AllReadyH.cons (List.getElem?_toArray.trans rfl) (fun K' hK => ?_) AllReadyH.nil)
      refine wanted_goS rfl ?_
      go_simp
      refine (put_any _ _ _ r.2 _ hra (by omega)).mono ?_
      rintro e wb ⟨vb, rfl, hrb, hbb⟩
      have hsb := SinceS.trans hsa hbb
      refine hK.out _ _ (hsb) (fun _ => ?_)
      clear hK K'
      refine wpAnyH_take (i := 13) (v := vb) (List.getElem?_toArray.trans rfl) (by kernel_rfl) (by kernel_rfl) (by kernel_rfl) (fun _ _ _ h => h) (.inl ⟨rfl, fun w' hS => rfl⟩) hsb ?_
      refine act_normS (by simp only [Act.put, List.setIfInBounds_toArray, List.set_cons_zero, List.set_cons_succ]; rfl) ?_
      refine wpAnyH_done (by kernel_rfl) ?_ _
      have HRB := Lib.hid hrb
      have HBB := Lib.hid (hbw.out.trans (Below.mono (B' := w.heap.size) hsb hbw.out.size))
      clear hG hra hba hsa hrb hbb hsb
      go_wp2
      go_roundw
      case rel => exact ⟨k + 1, by omega, by go_num, Lib.hid (HRB.out.congr (fun x => by rw [HET.out x]) (by omega)), HBB⟩
      case measure => simp [intOf]; omega
    · obtain rfl : n1 = k := by omega
      have d1 : decide (n1 < n1) = false := decide_eq_false (by omega)
      have hrs2 := hrs.out
      rw [List.take_of_length_le (by rw [HA.out]; exact Nat.le_refl _)] at hrs2
      have HRS := Lib.hid (hrs2.congr (q := fun x => endB a x ∨ endB (b.take 0) x) (m' := 2 * n1 + 2 * 0) (fun x => by simp [endB]) (by omega))
      clear hrs hrs2
      go_wp2
      go_loopw [5, 7] (fun sv si wr => ∃ k : Nat, k ≤ n2 ∧ si = .int .i64 k ∧ Hid (RisesAt (fun x => endB a x ∨ endB (b.take k) x) (2 * n1 + 2 * k) wr sv) ∧ Hid (Below w.heap.size w wr)) (fun _ si _ => n2 - (intOf si).toNat)
      case atStart => exact ⟨0, Nat.zero_le _, rfl, HRS, hbw⟩
      case round =>
        obtain ⟨k, hk, rfl, hrs, hbw⟩ := hrel
        by_cases hlt : k < n2
        · obtain ⟨r, hr⟩ : ∃ r, b[k]? = some r := ⟨_, List.getElem?_eq_getElem (by rw [HB.out]; exact hlt)⟩
          obtain ⟨g, off, rfl, hg, hcc⟩ := HR2.out.at_ (by rw [HB.out]; omega)
          have hx1 := (hbw.out.cell (p := ⟨g, off + k * 2, none⟩) hg).trans (hcc k r hr).1
          have hx2 := (hbw.out.cell (p := ⟨g, off + k * 2 + 1, none⟩) hg).trans (hcc k r hr).2
          have hgr : g < wr.heap.size := Nat.lt_of_lt_of_le hg hbw.out.size
          have HET := Lib.hid (endB_take hr)
          have d1 : decide (k < n2) = true := decide_eq_true hlt
          have hlti : (k : Int) < (n2 : Int) := by omega
          clear hcc hr
          go_wp2
          have hG : SinceS wr wr.drew := (Below.refl _ _).drew
          refine wp_region_held_drew (S := fun w' => SinceS wr w') (by kernel_rfl) hG (fun _ => ?_)
          refine wpAnyH_take (i := 0) (v := u5) (List.getElem?_toArray.trans rfl) (by kernel_rfl) (by kernel_rfl) (by kernel_rfl) (fun _ _ _ h => h) (.inl ⟨rfl, fun w' hS => rfl⟩) hG ?_
          refine act_normS (by simp only [Act.put, List.setIfInBounds_toArray, List.set_cons_zero, List.set_cons_succ]; rfl) ?_
          refine wpAnyH_take (i := 1) (v := .slice (some ⟨g, off, none⟩) n2 c2) (List.getElem?_toArray.trans rfl) (by kernel_rfl) (by kernel_rfl) (by kernel_rfl) (fun _ _ _ h => h) (.inl ⟨rfl, fun w' hS => rfl⟩) hG ?_
          refine act_normS (by simp only [Act.put, List.setIfInBounds_toArray, List.set_cons_zero, List.set_cons_succ]; rfl) ?_
          refine wpAnyH_take (i := 2) (v := .int .i64 (k : Int)) (List.getElem?_toArray.trans rfl) (by kernel_rfl) (by kernel_rfl) (by kernel_rfl) (fun _ _ _ h => h) (.inl ⟨rfl, fun w' hS => rfl⟩) hG ?_
          refine act_normS (by simp only [Act.put, List.setIfInBounds_toArray, List.set_cons_zero, List.set_cons_succ]; rfl) ?_
          refine wpAnyH_take (i := 3) (v := .pointer (some ⟨g, off + k * 2, none⟩)) (List.getElem?_toArray.trans rfl) (by kernel_rfl) (by kernel_rfl) (by kernel_rfl) (fun _ _ _ h => h) (.inl ⟨rfl, fun w' hS => by simp [go_sem, hlt]⟩) hG ?_
          refine act_normS (by simp only [Act.put, List.setIfInBounds_toArray, List.set_cons_zero, List.set_cons_succ]; rfl) ?_
          refine wpAnyH_take (i := 4) (v := .pointer (some ⟨g, off + k * 2, none⟩)) (List.getElem?_toArray.trans rfl) (by kernel_rfl) (by kernel_rfl) (by kernel_rfl) (fun _ _ _ h => h) (.inl ⟨rfl, fun w' hS => by simp [go_sem]⟩) hG ?_
          refine act_normS (by simp only [Act.put, List.setIfInBounds_toArray, List.set_cons_zero, List.set_cons_succ]; rfl) ?_
          refine wpAnyH_take (i := 5) (v := .int .u64 (r.1 : Int)) (List.getElem?_toArray.trans rfl) (by kernel_rfl) (by kernel_rfl) (by kernel_rfl) (fun _ _ _ h => h) (.inl ⟨rfl, fun w' hS => by have hc := SinceS.cell hS (p := ⟨g, off + k * 2, none⟩) hgr hx1; simp [go_sem, hc]⟩) hG ?_
          refine act_normS (by simp only [Act.put, List.setIfInBounds_toArray, List.set_cons_zero, List.set_cons_succ]; rfl) ?_
          refine wpAnyH_take (i := 7) (v := .slice (some ⟨g, off, none⟩) n2 c2) (List.getElem?_toArray.trans rfl) (by kernel_rfl) (by kernel_rfl) (by kernel_rfl) (fun _ _ _ h => h) (.inl ⟨rfl, fun w' hS => rfl⟩) hG ?_
          refine act_normS (by simp only [Act.put, List.setIfInBounds_toArray, List.set_cons_zero, List.set_cons_succ]; rfl) ?_
          refine wpAnyH_take (i := 8) (v := .int .i64 (k : Int)) (List.getElem?_toArray.trans rfl) (by kernel_rfl) (by kernel_rfl) (by kernel_rfl) (fun _ _ _ h => h) (.inl ⟨rfl, fun w' hS => rfl⟩) hG ?_
          refine act_normS (by simp only [Act.put, List.setIfInBounds_toArray, List.set_cons_zero, List.set_cons_succ]; rfl) ?_
          refine wpAnyH_take (i := 9) (v := .pointer (some ⟨g, off + k * 2, none⟩)) (List.getElem?_toArray.trans rfl) (by kernel_rfl) (by kernel_rfl) (by kernel_rfl) (fun _ _ _ h => h) (.inl ⟨rfl, fun w' hS => by simp [go_sem, hlt]⟩) hG ?_
          refine act_normS (by simp only [Act.put, List.setIfInBounds_toArray, List.set_cons_zero, List.set_cons_succ]; rfl) ?_
          refine wpAnyH_take (i := 10) (v := .pointer (some ⟨g, off + k * 2 + 1, none⟩)) (List.getElem?_toArray.trans rfl) (by kernel_rfl) (by kernel_rfl) (by kernel_rfl) (fun _ _ _ h => h) (.inl ⟨rfl, fun w' hS => by simp [go_sem]⟩) hG ?_
          refine act_normS (by simp only [Act.put, List.setIfInBounds_toArray, List.set_cons_zero, List.set_cons_succ]; rfl) ?_
          refine wpAnyH_take (i := 11) (v := .int .u64 (r.2 : Int)) (List.getElem?_toArray.trans rfl) (by kernel_rfl) (by kernel_rfl) (by kernel_rfl) (fun _ _ _ h => h) (.inl ⟨rfl, fun w' hS => by have hc := SinceS.cell hS (p := ⟨g, off + k * 2 + 1, none⟩) hgr hx2; simp [go_sem, hc]⟩) hG ?_
          refine act_normS (by simp only [Act.put, List.setIfInBounds_toArray, List.set_cons_zero, List.set_cons_succ]; rfl) ?_
          refine wpAnyH_ready (rs := [6]) (by kernel_rfl) (by simp) (AllReadyH.cons (List.getElem?_toArray.trans rfl) (fun K' hK => ?_) AllReadyH.nil)
          refine wanted_goS rfl ?_
          go_simp
          refine (put_any _ _ _ r.1 _ (hrs.out.below hG) (by omega)).mono ?_
          rintro e wa ⟨va, rfl, hra, hba⟩
          have hsa := SinceS.trans hG hba
          refine hK.out _ _ (hsa) (fun _ => ?_)
          clear hK K'
          refine wpAnyH_ready (rs := [12]) (by kernel_rfl) (by simp) (AllReadyH.cons (List.getElem?_toArray.trans rfl) (fun K' hK => ?_) AllReadyH.nil)
          refine wanted_goS rfl ?_
          go_simp
          refine (put_any _ _ _ r.2 _ hra (by omega)).mono ?_
          rintro e wb ⟨vb, rfl, hrb, hbb⟩
          have hsb := SinceS.trans hsa hbb
          refine hK.out _ _ (hsb) (fun _ => ?_)
          clear hK K'
          refine wpAnyH_take (i := 13) (v := vb) (List.getElem?_toArray.trans rfl) (by kernel_rfl) (by kernel_rfl) (by kernel_rfl) (fun _ _ _ h => h) (.inl ⟨rfl, fun w' hS => rfl⟩) hsb ?_
          refine act_normS (by simp only [Act.put, List.setIfInBounds_toArray, List.set_cons_zero, List.set_cons_succ]; rfl) ?_
          refine wpAnyH_done (by kernel_rfl) ?_ _
          have HRB := Lib.hid hrb
          have HBB := Lib.hid (hbw.out.trans (Below.mono (B' := w.heap.size) hsb hbw.out.size))
          clear hG hra hba hsa hrb hbb hsb
          go_wp2
          go_roundw
          case rel => exact ⟨k + 1, by omega, by go_num, Lib.hid (HRB.out.congr (fun x => by rw [or_assoc, or_assoc, HET.out x, or_assoc]) (by omega)), HBB⟩
          case measure => simp [intOf]; omega
        · obtain rfl : k = n2 := by omega
          have d1 : decide (k < k) = false := decide_eq_false (by omega)
          have hrs2 := hrs.out
          rw [List.take_of_length_le (by rw [HB.out]; exact Nat.le_refl _)] at hrs2
          have HRS := Lib.hid (hrs2.congr (m' := 40000) (fun x => Iff.rfl) (by omega))
          clear hrs hrs2
          go_wp2
          go_ret
          exact ⟨_, rfl, HRS.out, hbw.out⟩

end Go.Proofs.Ytkmnhlcjeebejaa
