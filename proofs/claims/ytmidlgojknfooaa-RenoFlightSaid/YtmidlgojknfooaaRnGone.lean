/-
  Gone. Made by tools/gen_rnmeth.py.
-/
import Derived.Test.YtmidlgojknfooaaRnSmall
import Derived.Test.YtmidlgojknfooaaSpDraw
namespace Go.Proofs.Ytmidlgojknfooaa
open Go.RowKit
set_option linter.unusedVariables false

/-- What a call on a window that answers nothing leaves. -/
def NGave (g : Nat) (s : NS) (w : World) (e : Ending) (w' : World) : Prop := e = .returned (.tuple #[]) ∧ w.grownBy w' (some g) ∧ NAt w' g s

set_option maxRecDepth 10000 in
set_option maxHeartbeats 2000000 in
theorem gone_any (w : World) (g : Nat) (A : Option Addr) (n c : Nat) (l : List Nat) (s : NS) (h : NAt w g s) (hf : s.fl ≤ mU) (hl : l.length = n) (hs : Sx w g A (l.map cell64)) (hn : n ≤ maxLen) :
    Calls Try.prog 9 #[.pointer (some ⟨g, 0, none⟩), .slice A n c] w (NGave g { s with fl := goneN s.fl l } w) := by
  have HL := Lib.hid hl
  have HS := Lib.hid hs
  have HA := Lib.hid h
  have HF := Lib.hid hf
  have hnm : n ≤ 9223372036854775807 := by unfold maxLen at hn; omega
  clear hl hs hn h hf
  go_enter Try.func9, Try.ntmps9
  go_wp2
  go_loopw [10] (fun s10 wr => ∃ k : Nat, k ≤ n ∧ s10 = .int .i64 (k : Int) ∧ Hid (NAt wr g { s with fl := lessL s.fl (l.take k) }) ∧ Hid (w.grownBy wr (some g))) (fun s10 _ => n - (intOf s10).toNat)
  case atStart => exact ⟨0, Nat.zero_le _, rfl, HA, Lib.hid (grown_below (Below.refl _ _))⟩
  case round =>
    obtain ⟨k, hk, rfl, HR, HG⟩ := hrel
    by_cases hlt : k < n
    · obtain ⟨x, hx⟩ : ∃ x, l[k]? = some x := ⟨_, List.getElem?_eq_getElem (by rw [HL.out]; exact hlt)⟩
      obtain ⟨q, off, rfl, hbl, hne, hcc⟩ := (HS.out.grown HG.out) (by intro h0; have := congrArg List.length h0; rw [List.length_map, HL.out] at this; simp at this; omega)
      have hc : wr.cell? ⟨q, off + k, none⟩ = some (.int .u64 (x : Int)) := hcc k _ (by rw [List.getElem?_map, hx]; rfl)
      have d0 : decide (k < n) = true := decide_eq_true hlt
      obtain ⟨f, hf⟩ : ∃ f, f = lessL s.fl (l.take k) := ⟨_, rfl⟩
      obtain ⟨m, hm⟩ : ∃ m, m = min f (cN x) := ⟨_, rfl⟩
      obtain ⟨d, hd⟩ : ∃ d, d = f - m := ⟨_, rfl⟩
      have hfU : f ≤ mU := by rw [hf]; exact Nat.le_trans (lessL_le _ _) HF.out
      have HM : Hid ((if cN x < f then (cN x : Int) else (f : Int)) = (m : Int)) := Lib.hid (by split <;> omega)
      have HD : Hid (IntKind.u64.wrap ((f : Int) - (m : Int)) = (d : Int)) := Lib.hid (by rw [IntKind.wrap_u64]; unfold mU at hfU; omega)
      have HV : Hid (d = lessL s.fl (l.take (k + 1))) := Lib.hid (by rw [lessL_step hx, ← hf, ← hm, hd])
      rw [← hf] at HR
      clear hcc hx hf hm hd
      go_upto_region 4 with (fail)
      have HR2 := Lib.hid (HR.out.below (Below.refl _ _).drew)
      have HG2 := Lib.hid (grown_trans HG.out (grown_below (row := some g) (Below.refl wr.heap.size wr).drew))
      have f2 := HR2.out.fz 2
      have c2 : wr.drew.cell? ⟨g, 2, none⟩ = some (.int .u64 (f : Int)) := HR2.out.c2
      have h5 : NAt (wr.drew.setCell ⟨g, 2, none⟩ (.int .u64 (d : Int))) g { s with fl := d } := HR2.out.set 2 _ rfl
      have hg5 : w.grownBy (wr.drew.setCell ⟨g, 2, none⟩ (.int .u64 (d : Int))) (some g) := grown_trans HG2.out (grown_set _ _ _ _)
      have H5 := Lib.hid h5
      have HG5 := Lib.hid hg5
      clear h5 hg5 HR HG HR2 HG2 hc d0
      refine wp_region_held_drew (S := fun w' => True) (by kernel_rfl) trivial (fun hS0 => ?_)
      generalize wr.drew = w2 at *
      refine wpAnyH_take (i := 0) (v := .pointer (some ⟨g, 0, none⟩)) (List.getElem?_toArray.trans rfl) (by kernel_rfl) (by kernel_rfl) (by kernel_rfl) (fun _ _ _ h => h) (.inl ⟨rfl, fun w' hS => rfl⟩) trivial ?_
      refine act_normS (by simp only [Act.put, List.setIfInBounds_toArray, List.set_cons_zero, List.set_cons_succ]; rfl) ?_
      refine wpAnyH_take (i := 1) (v := .pointer (some ⟨g, 0, none⟩)) (List.getElem?_toArray.trans rfl) (by kernel_rfl) (by kernel_rfl) (by kernel_rfl) (fun _ _ _ h => h) (.inl ⟨rfl, fun w' hS => by simp [go_sem]⟩) trivial ?_
      refine act_normS (by simp only [Act.put, List.setIfInBounds_toArray, List.set_cons_zero, List.set_cons_succ]; rfl) ?_
      refine wpAnyH_take (i := 2) (v := .pointer (some ⟨g, 0, none⟩)) (List.getElem?_toArray.trans rfl) (by kernel_rfl) (by kernel_rfl) (by kernel_rfl) (fun _ _ _ h => h) (.inl ⟨rfl, fun w' hS => by simp [go_sem]⟩) trivial ?_
      refine act_normS (by simp only [Act.put, List.setIfInBounds_toArray, List.set_cons_zero, List.set_cons_succ]; rfl) ?_
      refine wpAnyH_take (i := 3) (v := .pointer (some ⟨g, 2, none⟩)) (List.getElem?_toArray.trans rfl) (by kernel_rfl) (by kernel_rfl) (by kernel_rfl) (fun _ _ _ h => h) (.inl ⟨rfl, fun w' hS => by simp [go_sem]⟩) trivial ?_
      refine act_normS (by simp only [Act.put, List.setIfInBounds_toArray, List.set_cons_zero, List.set_cons_succ]; rfl) ?_
      refine wpAnyH_take (i := 5) (v := .pointer (some ⟨g, 0, none⟩)) (List.getElem?_toArray.trans rfl) (by kernel_rfl) (by kernel_rfl) (by kernel_rfl) (fun _ _ _ h => h) (.inl ⟨rfl, fun w' hS => rfl⟩) trivial ?_
      refine act_normS (by simp only [Act.put, List.setIfInBounds_toArray, List.set_cons_zero, List.set_cons_succ]; rfl) ?_
      refine wpAnyH_take (i := 6) (v := .pointer (some ⟨g, 0, none⟩)) (List.getElem?_toArray.trans rfl) (by kernel_rfl) (by kernel_rfl) (by kernel_rfl) (fun _ _ _ h => h) (.inl ⟨rfl, fun w' hS => by simp [go_sem]⟩) trivial ?_
      refine act_normS (by simp only [Act.put, List.setIfInBounds_toArray, List.set_cons_zero, List.set_cons_succ]; rfl) ?_
      refine wpAnyH_take (i := 7) (v := .pointer (some ⟨g, 0, none⟩)) (List.getElem?_toArray.trans rfl) (by kernel_rfl) (by kernel_rfl) (by kernel_rfl) (fun _ _ _ h => h) (.inl ⟨rfl, fun w' hS => by simp [go_sem]⟩) trivial ?_
      refine act_normS (by simp only [Act.put, List.setIfInBounds_toArray, List.set_cons_zero, List.set_cons_succ]; rfl) ?_
      refine wpAnyH_take (i := 8) (v := .pointer (some ⟨g, 2, none⟩)) (List.getElem?_toArray.trans rfl) (by kernel_rfl) (by kernel_rfl) (by kernel_rfl) (fun _ _ _ h => h) (.inl ⟨rfl, fun w' hS => by simp [go_sem]⟩) trivial ?_
      refine act_normS (by simp only [Act.put, List.setIfInBounds_toArray, List.set_cons_zero, List.set_cons_succ]; rfl) ?_
      refine wpAnyH_take (i := 10) (v := .int .u64 (x : Int)) (List.getElem?_toArray.trans rfl) (by kernel_rfl) (by kernel_rfl) (by kernel_rfl) (fun _ _ _ h => h) (.inl ⟨rfl, fun w' hS => rfl⟩) trivial ?_
      refine act_normS (by simp only [Act.put, List.setIfInBounds_toArray, List.set_cons_zero, List.set_cons_succ]; rfl) ?_
      refine wpAnyH_ready (rs := [4, 9, 11]) (by kernel_rfl) (by simp) (AllReadyH.cons (List.getElem?_toArray.trans rfl) (fun K' hK => ?_) (AllReadyH.cons (List.getElem?_toArray.trans rfl) (fun K' hK => ?_) (AllReadyH.cons (List.getElem?_toArray.trans rfl) (fun K' hK => ?_) AllReadyH.nil)))
      · skip
        refine wanted_goS rfl ?_
        go_simp
        refine hK.out _ _ (trivial) (fun _ => ?_)
        clear hK K'
        refine wpAnyH_ready (rs := [9, 11]) (by kernel_rfl) (by simp) (AllReadyH.cons (List.getElem?_toArray.trans rfl) (fun K' hK => ?_) (AllReadyH.cons (List.getElem?_toArray.trans rfl) (fun K' hK => ?_) AllReadyH.nil))
        · skip
          refine wanted_goS rfl ?_
          go_simp
          refine hK.out _ _ (trivial) (fun _ => ?_)
          clear hK K'
          refine wpAnyH_ready (rs := [11]) (by kernel_rfl) (by simp) (AllReadyH.cons (List.getElem?_toArray.trans rfl) (fun K' hK => ?_) AllReadyH.nil)
          refine wanted_goS rfl ?_
          go_simp
          refine (counted_any _ x).mono ?_
          rintro e w3 ⟨rfl, rfl⟩
          refine hK.out _ _ (trivial) (fun _ => ?_)
          clear hK K'
          refine wpAnyH_take (i := 12) (v := .int .u64 (m : Int)) (List.getElem?_toArray.trans rfl) (by kernel_rfl) (by kernel_rfl) (by kernel_rfl) (fun _ _ _ h => h) (.inl ⟨rfl, fun w' hS => by simp [go_sem, HM.out]⟩) trivial ?_
          refine act_normS (by simp only [Act.put, List.setIfInBounds_toArray, List.set_cons_zero, List.set_cons_succ]; rfl) ?_
          refine wpAnyH_take (i := 13) (v := .int .u64 (d : Int)) (List.getElem?_toArray.trans rfl) (by kernel_rfl) (by kernel_rfl) (by kernel_rfl) (fun _ _ _ h => h) (.inl ⟨rfl, fun w' hS => by simp [go_sem, HD.out]⟩) trivial ?_
          refine act_normS (by simp only [Act.put, List.setIfInBounds_toArray, List.set_cons_zero, List.set_cons_succ]; rfl) ?_
          refine wpAnyH_take (i := 14) (v := .pointer (some ⟨g, 0, none⟩)) (List.getElem?_toArray.trans rfl) (by kernel_rfl) (by kernel_rfl) (by kernel_rfl) (fun _ _ _ h => h) (.inl ⟨rfl, fun w' hS => by simp [go_sem]⟩) trivial ?_
          refine act_normS (by simp only [Act.put, List.setIfInBounds_toArray, List.set_cons_zero, List.set_cons_succ]; rfl) ?_
          refine wpAnyH_take (i := 15) (v := .pointer (some ⟨g, 0, none⟩)) (List.getElem?_toArray.trans rfl) (by kernel_rfl) (by kernel_rfl) (by kernel_rfl) (fun _ _ _ h => h) (.inl ⟨rfl, fun w' hS => by simp [go_sem]⟩) trivial ?_
          refine act_normS (by simp only [Act.put, List.setIfInBounds_toArray, List.set_cons_zero, List.set_cons_succ]; rfl) ?_
          refine wpAnyH_take (i := 16) (v := .pointer (some ⟨g, 2, none⟩)) (List.getElem?_toArray.trans rfl) (by kernel_rfl) (by kernel_rfl) (by kernel_rfl) (fun _ _ _ h => h) (.inl ⟨rfl, fun w' hS => by simp [go_sem]⟩) trivial ?_
          refine act_normS (by simp only [Act.put, List.setIfInBounds_toArray, List.set_cons_zero, List.set_cons_succ]; rfl) ?_
          refine wpAnyH_ready (rs := [17]) (by kernel_rfl) (by simp) (AllReadyH.cons (List.getElem?_toArray.trans rfl) (fun K' hK => ?_) AllReadyH.nil)
          refine wanted_goS rfl ?_
          go_simp
          refine hK.out _ _ (trivial) (fun _ => ?_)
          clear hK K'
          refine wpAnyH_done (by kernel_rfl) ?_ _
          generalize w2.setCell ⟨g, 2, none⟩ (.int .u64 (d : Int)) = w5 at *
          rw [HV.out] at H5
          clear HM HD HV hfU f2 c2
          go_wp2
          go_roundw
          case rel => exact ⟨k + 1, by omega, by go_num, H5, HG5⟩
          case measure => simp [intOf]; omega
        · skip
          refine wanted_goS rfl ?_
          go_simp
          refine (counted_any _ x).mono ?_
          rintro e w3 ⟨rfl, rfl⟩
          refine hK.out _ _ (trivial) (fun _ => ?_)
          clear hK K'
          refine wpAnyH_ready (rs := [9]) (by kernel_rfl) (by simp) (AllReadyH.cons (List.getElem?_toArray.trans rfl) (fun K' hK => ?_) AllReadyH.nil)
          refine wanted_goS rfl ?_
          go_simp
          refine hK.out _ _ (trivial) (fun _ => ?_)
          clear hK K'
          refine wpAnyH_take (i := 12) (v := .int .u64 (m : Int)) (List.getElem?_toArray.trans rfl) (by kernel_rfl) (by kernel_rfl) (by kernel_rfl) (fun _ _ _ h => h) (.inl ⟨rfl, fun w' hS => by simp [go_sem, HM.out]⟩) trivial ?_
          refine act_normS (by simp only [Act.put, List.setIfInBounds_toArray, List.set_cons_zero, List.set_cons_succ]; rfl) ?_
          refine wpAnyH_take (i := 13) (v := .int .u64 (d : Int)) (List.getElem?_toArray.trans rfl) (by kernel_rfl) (by kernel_rfl) (by kernel_rfl) (fun _ _ _ h => h) (.inl ⟨rfl, fun w' hS => by simp [go_sem, HD.out]⟩) trivial ?_
          refine act_normS (by simp only [Act.put, List.setIfInBounds_toArray, List.set_cons_zero, List.set_cons_succ]; rfl) ?_
          refine wpAnyH_take (i := 14) (v := .pointer (some ⟨g, 0, none⟩)) (List.getElem?_toArray.trans rfl) (by kernel_rfl) (by kernel_rfl) (by kernel_rfl) (fun _ _ _ h => h) (.inl ⟨rfl, fun w' hS => by simp [go_sem]⟩) trivial ?_
          refine act_normS (by simp only [Act.put, List.setIfInBounds_toArray, List.set_cons_zero, List.set_cons_succ]; rfl) ?_
          refine wpAnyH_take (i := 15) (v := .pointer (some ⟨g, 0, none⟩)) (List.getElem?_toArray.trans rfl) (by kernel_rfl) (by kernel_rfl) (by kernel_rfl) (fun _ _ _ h => h) (.inl ⟨rfl, fun w' hS => by simp [go_sem]⟩) trivial ?_
          refine act_normS (by simp only [Act.put, List.setIfInBounds_toArray, List.set_cons_zero, List.set_cons_succ]; rfl) ?_
          refine wpAnyH_take (i := 16) (v := .pointer (some ⟨g, 2, none⟩)) (List.getElem?_toArray.trans rfl) (by kernel_rfl) (by kernel_rfl) (by kernel_rfl) (fun _ _ _ h => h) (.inl ⟨rfl, fun w' hS => by simp [go_sem]⟩) trivial ?_
          refine act_normS (by simp only [Act.put, List.setIfInBounds_toArray, List.set_cons_zero, List.set_cons_succ]; rfl) ?_
          refine wpAnyH_ready (rs := [17]) (by kernel_rfl) (by simp) (AllReadyH.cons (List.getElem?_toArray.trans rfl) (fun K' hK => ?_) AllReadyH.nil)
          refine wanted_goS rfl ?_
          go_simp
          refine hK.out _ _ (trivial) (fun _ => ?_)
          clear hK K'
          refine wpAnyH_done (by kernel_rfl) ?_ _
          generalize w2.setCell ⟨g, 2, none⟩ (.int .u64 (d : Int)) = w5 at *
          rw [HV.out] at H5
          clear HM HD HV hfU f2 c2
          go_wp2
          go_roundw
          case rel => exact ⟨k + 1, by omega, by go_num, H5, HG5⟩
          case measure => simp [intOf]; omega
      · skip
        refine wanted_goS rfl ?_
        go_simp
        refine hK.out _ _ (trivial) (fun _ => ?_)
        clear hK K'
        refine wpAnyH_ready (rs := [4, 11]) (by kernel_rfl) (by simp) (AllReadyH.cons (List.getElem?_toArray.trans rfl) (fun K' hK => ?_) (AllReadyH.cons (List.getElem?_toArray.trans rfl) (fun K' hK => ?_) AllReadyH.nil))
        · skip
          refine wanted_goS rfl ?_
          go_simp
          refine hK.out _ _ (trivial) (fun _ => ?_)
          clear hK K'
          refine wpAnyH_ready (rs := [11]) (by kernel_rfl) (by simp) (AllReadyH.cons (List.getElem?_toArray.trans rfl) (fun K' hK => ?_) AllReadyH.nil)
          refine wanted_goS rfl ?_
          go_simp
          refine (counted_any _ x).mono ?_
          rintro e w3 ⟨rfl, rfl⟩
          refine hK.out _ _ (trivial) (fun _ => ?_)
          clear hK K'
          refine wpAnyH_take (i := 12) (v := .int .u64 (m : Int)) (List.getElem?_toArray.trans rfl) (by kernel_rfl) (by kernel_rfl) (by kernel_rfl) (fun _ _ _ h => h) (.inl ⟨rfl, fun w' hS => by simp [go_sem, HM.out]⟩) trivial ?_
          refine act_normS (by simp only [Act.put, List.setIfInBounds_toArray, List.set_cons_zero, List.set_cons_succ]; rfl) ?_
          refine wpAnyH_take (i := 13) (v := .int .u64 (d : Int)) (List.getElem?_toArray.trans rfl) (by kernel_rfl) (by kernel_rfl) (by kernel_rfl) (fun _ _ _ h => h) (.inl ⟨rfl, fun w' hS => by simp [go_sem, HD.out]⟩) trivial ?_
          refine act_normS (by simp only [Act.put, List.setIfInBounds_toArray, List.set_cons_zero, List.set_cons_succ]; rfl) ?_
          refine wpAnyH_take (i := 14) (v := .pointer (some ⟨g, 0, none⟩)) (List.getElem?_toArray.trans rfl) (by kernel_rfl) (by kernel_rfl) (by kernel_rfl) (fun _ _ _ h => h) (.inl ⟨rfl, fun w' hS => by simp [go_sem]⟩) trivial ?_
          refine act_normS (by simp only [Act.put, List.setIfInBounds_toArray, List.set_cons_zero, List.set_cons_succ]; rfl) ?_
          refine wpAnyH_take (i := 15) (v := .pointer (some ⟨g, 0, none⟩)) (List.getElem?_toArray.trans rfl) (by kernel_rfl) (by kernel_rfl) (by kernel_rfl) (fun _ _ _ h => h) (.inl ⟨rfl, fun w' hS => by simp [go_sem]⟩) trivial ?_
          refine act_normS (by simp only [Act.put, List.setIfInBounds_toArray, List.set_cons_zero, List.set_cons_succ]; rfl) ?_
          refine wpAnyH_take (i := 16) (v := .pointer (some ⟨g, 2, none⟩)) (List.getElem?_toArray.trans rfl) (by kernel_rfl) (by kernel_rfl) (by kernel_rfl) (fun _ _ _ h => h) (.inl ⟨rfl, fun w' hS => by simp [go_sem]⟩) trivial ?_
          refine act_normS (by simp only [Act.put, List.setIfInBounds_toArray, List.set_cons_zero, List.set_cons_succ]; rfl) ?_
          refine wpAnyH_ready (rs := [17]) (by kernel_rfl) (by simp) (AllReadyH.cons (List.getElem?_toArray.trans rfl) (fun K' hK => ?_) AllReadyH.nil)
          refine wanted_goS rfl ?_
          go_simp
          refine hK.out _ _ (trivial) (fun _ => ?_)
          clear hK K'
          refine wpAnyH_done (by kernel_rfl) ?_ _
          generalize w2.setCell ⟨g, 2, none⟩ (.int .u64 (d : Int)) = w5 at *
          rw [HV.out] at H5
          clear HM HD HV hfU f2 c2
          go_wp2
          go_roundw
          case rel => exact ⟨k + 1, by omega, by go_num, H5, HG5⟩
          case measure => simp [intOf]; omega
        · skip
          refine wanted_goS rfl ?_
          go_simp
          refine (counted_any _ x).mono ?_
          rintro e w3 ⟨rfl, rfl⟩
          refine hK.out _ _ (trivial) (fun _ => ?_)
          clear hK K'
          refine wpAnyH_take (i := 12) (v := .int .u64 (m : Int)) (List.getElem?_toArray.trans rfl) (by kernel_rfl) (by kernel_rfl) (by kernel_rfl) (fun _ _ _ h => h) (.inl ⟨rfl, fun w' hS => by simp [go_sem, HM.out]⟩) trivial ?_
          refine act_normS (by simp only [Act.put, List.setIfInBounds_toArray, List.set_cons_zero, List.set_cons_succ]; rfl) ?_
          refine wpAnyH_ready (rs := [4]) (by kernel_rfl) (by simp) (AllReadyH.cons (List.getElem?_toArray.trans rfl) (fun K' hK => ?_) AllReadyH.nil)
          refine wanted_goS rfl ?_
          go_simp
          refine hK.out _ _ (trivial) (fun _ => ?_)
          clear hK K'
          refine wpAnyH_take (i := 13) (v := .int .u64 (d : Int)) (List.getElem?_toArray.trans rfl) (by kernel_rfl) (by kernel_rfl) (by kernel_rfl) (fun _ _ _ h => h) (.inl ⟨rfl, fun w' hS => by simp [go_sem, HD.out]⟩) trivial ?_
          refine act_normS (by simp only [Act.put, List.setIfInBounds_toArray, List.set_cons_zero, List.set_cons_succ]; rfl) ?_
          refine wpAnyH_take (i := 14) (v := .pointer (some ⟨g, 0, none⟩)) (List.getElem?_toArray.trans rfl) (by kernel_rfl) (by kernel_rfl) (by kernel_rfl) (fun _ _ _ h => h) (.inl ⟨rfl, fun w' hS => by simp [go_sem]⟩) trivial ?_
          refine act_normS (by simp only [Act.put, List.setIfInBounds_toArray, List.set_cons_zero, List.set_cons_succ]; rfl) ?_
          refine wpAnyH_take (i := 15) (v := .pointer (some ⟨g, 0, none⟩)) (List.getElem?_toArray.trans rfl) (by kernel_rfl) (by kernel_rfl) (by kernel_rfl) (fun _ _ _ h => h) (.inl ⟨rfl, fun w' hS => by simp [go_sem]⟩) trivial ?_
          refine act_normS (by simp only [Act.put, List.setIfInBounds_toArray, List.set_cons_zero, List.set_cons_succ]; rfl) ?_
          refine wpAnyH_take (i := 16) (v := .pointer (some ⟨g, 2, none⟩)) (List.getElem?_toArray.trans rfl) (by kernel_rfl) (by kernel_rfl) (by kernel_rfl) (fun _ _ _ h => h) (.inl ⟨rfl, fun w' hS => by simp [go_sem]⟩) trivial ?_
          refine act_normS (by simp only [Act.put, List.setIfInBounds_toArray, List.set_cons_zero, List.set_cons_succ]; rfl) ?_
          refine wpAnyH_ready (rs := [17]) (by kernel_rfl) (by simp) (AllReadyH.cons (List.getElem?_toArray.trans rfl) (fun K' hK => ?_) AllReadyH.nil)
          refine wanted_goS rfl ?_
          go_simp
          refine hK.out _ _ (trivial) (fun _ => ?_)
          clear hK K'
          refine wpAnyH_done (by kernel_rfl) ?_ _
          generalize w2.setCell ⟨g, 2, none⟩ (.int .u64 (d : Int)) = w5 at *
          rw [HV.out] at H5
          clear HM HD HV hfU f2 c2
          go_wp2
          go_roundw
          case rel => exact ⟨k + 1, by omega, by go_num, H5, HG5⟩
          case measure => simp [intOf]; omega
      · skip
        refine wanted_goS rfl ?_
        go_simp
        refine (counted_any _ x).mono ?_
        rintro e w3 ⟨rfl, rfl⟩
        refine hK.out _ _ (trivial) (fun _ => ?_)
        clear hK K'
        refine wpAnyH_ready (rs := [4, 9]) (by kernel_rfl) (by simp) (AllReadyH.cons (List.getElem?_toArray.trans rfl) (fun K' hK => ?_) (AllReadyH.cons (List.getElem?_toArray.trans rfl) (fun K' hK => ?_) AllReadyH.nil))
        · skip
          refine wanted_goS rfl ?_
          go_simp
          refine hK.out _ _ (trivial) (fun _ => ?_)
          clear hK K'
          refine wpAnyH_ready (rs := [9]) (by kernel_rfl) (by simp) (AllReadyH.cons (List.getElem?_toArray.trans rfl) (fun K' hK => ?_) AllReadyH.nil)
          refine wanted_goS rfl ?_
          go_simp
          refine hK.out _ _ (trivial) (fun _ => ?_)
          clear hK K'
          refine wpAnyH_take (i := 12) (v := .int .u64 (m : Int)) (List.getElem?_toArray.trans rfl) (by kernel_rfl) (by kernel_rfl) (by kernel_rfl) (fun _ _ _ h => h) (.inl ⟨rfl, fun w' hS => by simp [go_sem, HM.out]⟩) trivial ?_
          refine act_normS (by simp only [Act.put, List.setIfInBounds_toArray, List.set_cons_zero, List.set_cons_succ]; rfl) ?_
          refine wpAnyH_take (i := 13) (v := .int .u64 (d : Int)) (List.getElem?_toArray.trans rfl) (by kernel_rfl) (by kernel_rfl) (by kernel_rfl) (fun _ _ _ h => h) (.inl ⟨rfl, fun w' hS => by simp [go_sem, HD.out]⟩) trivial ?_
          refine act_normS (by simp only [Act.put, List.setIfInBounds_toArray, List.set_cons_zero, List.set_cons_succ]; rfl) ?_
          refine wpAnyH_take (i := 14) (v := .pointer (some ⟨g, 0, none⟩)) (List.getElem?_toArray.trans rfl) (by kernel_rfl) (by kernel_rfl) (by kernel_rfl) (fun _ _ _ h => h) (.inl ⟨rfl, fun w' hS => by simp [go_sem]⟩) trivial ?_
          refine act_normS (by simp only [Act.put, List.setIfInBounds_toArray, List.set_cons_zero, List.set_cons_succ]; rfl) ?_
          refine wpAnyH_take (i := 15) (v := .pointer (some ⟨g, 0, none⟩)) (List.getElem?_toArray.trans rfl) (by kernel_rfl) (by kernel_rfl) (by kernel_rfl) (fun _ _ _ h => h) (.inl ⟨rfl, fun w' hS => by simp [go_sem]⟩) trivial ?_
          refine act_normS (by simp only [Act.put, List.setIfInBounds_toArray, List.set_cons_zero, List.set_cons_succ]; rfl) ?_
          refine wpAnyH_take (i := 16) (v := .pointer (some ⟨g, 2, none⟩)) (List.getElem?_toArray.trans rfl) (by kernel_rfl) (by kernel_rfl) (by kernel_rfl) (fun _ _ _ h => h) (.inl ⟨rfl, fun w' hS => by simp [go_sem]⟩) trivial ?_
          refine act_normS (by simp only [Act.put, List.setIfInBounds_toArray, List.set_cons_zero, List.set_cons_succ]; rfl) ?_
          refine wpAnyH_ready (rs := [17]) (by kernel_rfl) (by simp) (AllReadyH.cons (List.getElem?_toArray.trans rfl) (fun K' hK => ?_) AllReadyH.nil)
          refine wanted_goS rfl ?_
          go_simp
          refine hK.out _ _ (trivial) (fun _ => ?_)
          clear hK K'
          refine wpAnyH_done (by kernel_rfl) ?_ _
          generalize w2.setCell ⟨g, 2, none⟩ (.int .u64 (d : Int)) = w5 at *
          rw [HV.out] at H5
          clear HM HD HV hfU f2 c2
          go_wp2
          go_roundw
          case rel => exact ⟨k + 1, by omega, by go_num, H5, HG5⟩
          case measure => simp [intOf]; omega
        · skip
          refine wanted_goS rfl ?_
          go_simp
          refine hK.out _ _ (trivial) (fun _ => ?_)
          clear hK K'
          refine wpAnyH_take (i := 12) (v := .int .u64 (m : Int)) (List.getElem?_toArray.trans rfl) (by kernel_rfl) (by kernel_rfl) (by kernel_rfl) (fun _ _ _ h => h) (.inl ⟨rfl, fun w' hS => by simp [go_sem, HM.out]⟩) trivial ?_
          refine act_normS (by simp only [Act.put, List.setIfInBounds_toArray, List.set_cons_zero, List.set_cons_succ]; rfl) ?_
          refine wpAnyH_ready (rs := [4]) (by kernel_rfl) (by simp) (AllReadyH.cons (List.getElem?_toArray.trans rfl) (fun K' hK => ?_) AllReadyH.nil)
          refine wanted_goS rfl ?_
          go_simp
          refine hK.out _ _ (trivial) (fun _ => ?_)
          clear hK K'
          refine wpAnyH_take (i := 13) (v := .int .u64 (d : Int)) (List.getElem?_toArray.trans rfl) (by kernel_rfl) (by kernel_rfl) (by kernel_rfl) (fun _ _ _ h => h) (.inl ⟨rfl, fun w' hS => by simp [go_sem, HD.out]⟩) trivial ?_
          refine act_normS (by simp only [Act.put, List.setIfInBounds_toArray, List.set_cons_zero, List.set_cons_succ]; rfl) ?_
          refine wpAnyH_take (i := 14) (v := .pointer (some ⟨g, 0, none⟩)) (List.getElem?_toArray.trans rfl) (by kernel_rfl) (by kernel_rfl) (by kernel_rfl) (fun _ _ _ h => h) (.inl ⟨rfl, fun w' hS => by simp [go_sem]⟩) trivial ?_
          refine act_normS (by simp only [Act.put, List.setIfInBounds_toArray, List.set_cons_zero, List.set_cons_succ]; rfl) ?_
          refine wpAnyH_take (i := 15) (v := .pointer (some ⟨g, 0, none⟩)) (List.getElem?_toArray.trans rfl) (by kernel_rfl) (by kernel_rfl) (by kernel_rfl) (fun _ _ _ h => h) (.inl ⟨rfl, fun w' hS => by simp [go_sem]⟩) trivial ?_
          refine act_normS (by simp only [Act.put, List.setIfInBounds_toArray, List.set_cons_zero, List.set_cons_succ]; rfl) ?_
          refine wpAnyH_take (i := 16) (v := .pointer (some ⟨g, 2, none⟩)) (List.getElem?_toArray.trans rfl) (by kernel_rfl) (by kernel_rfl) (by kernel_rfl) (fun _ _ _ h => h) (.inl ⟨rfl, fun w' hS => by simp [go_sem]⟩) trivial ?_
          refine act_normS (by simp only [Act.put, List.setIfInBounds_toArray, List.set_cons_zero, List.set_cons_succ]; rfl) ?_
          refine wpAnyH_ready (rs := [17]) (by kernel_rfl) (by simp) (AllReadyH.cons (List.getElem?_toArray.trans rfl) (fun K' hK => ?_) AllReadyH.nil)
          refine wanted_goS rfl ?_
          go_simp
          refine hK.out _ _ (trivial) (fun _ => ?_)
          clear hK K'
          refine wpAnyH_done (by kernel_rfl) ?_ _
          generalize w2.setCell ⟨g, 2, none⟩ (.int .u64 (d : Int)) = w5 at *
          rw [HV.out] at H5
          clear HM HD HV hfU f2 c2
          go_wp2
          go_roundw
          case rel => exact ⟨k + 1, by omega, by go_num, H5, HG5⟩
          case measure => simp [intOf]; omega
    · obtain rfl : k = n := by omega
      have d0 : decide (k < k) = false := decide_eq_false (by omega)
      obtain ⟨f, hf⟩ : ∃ f, f = lessL s.fl l := ⟨_, rfl⟩
      have ht : l.take k = l := List.take_of_length_le (by rw [HL.out]; exact Nat.le_refl _)
      rw [ht, ← hf] at HR
      have HM : Hid ((if (4611686018427387904 : Int) < (f : Int) then (4611686018427387904 : Int) else (f : Int)) = (goneN s.fl l : Int)) := Lib.hid (by unfold goneN; rw [← hf]; unfold mB; split <;> omega)
      have c2 : wr.cell? ⟨g, 2, none⟩ = some (.int .u64 (f : Int)) := HR.out.c2
      have f2 := HR.out.fz 2
      have H5 : Hid (NAt (wr.setCell ⟨g, 2, none⟩ (.int .u64 (goneN s.fl l : Int))) g { s with fl := goneN s.fl l }) := Lib.hid (HR.out.set 2 _ rfl)
      have HG5 := Lib.hid (grown_trans HG.out (grown_set wr g 2 (.int .u64 (goneN s.fl l : Int))))
      clear hf ht HR HG
      generalize goneN s.fl l = m at *
      go_wp2
      · rename_i h
        have e := HM.out
        rw [if_pos h] at e
        rw [← e] at H5 HG5
        go_end0
        exact ⟨rfl, HG5.out, H5.out⟩
      · rename_i h
        have e := HM.out
        rw [if_neg (by omega)] at e
        rw [← e] at H5 HG5
        go_end0
        exact ⟨rfl, HG5.out, H5.out⟩

end Go.Proofs.Ytmidlgojknfooaa
