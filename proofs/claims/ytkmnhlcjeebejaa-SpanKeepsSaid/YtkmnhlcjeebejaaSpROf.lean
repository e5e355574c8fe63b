/-
  The walk through hostlerlaw11.of: made by tools/gen_spof.py.
-/
import Derived.Test.YtkmnhlcjeebejaaSpDraw
import Derived.Test.YtkmnhlcjeebejaaSpOf
namespace Go.Proofs.Ytkmnhlcjeebejaa
open Go.RowKit
set_option linter.unusedVariables false

/-- Two and two of them. -/
def pairsL : List Nat → List (Nat × Nat)
  | a :: b :: t => (a, b) :: pairsL t
  | _ => []
theorem pairs_app : ∀ (k : Nat) (l : List Nat) (x y : Nat), l.length = 2 * k → pairsL (l ++ [x, y]) = pairsL l ++ [(x, y)]
  | 0, l, x, y, h => by
    obtain rfl := List.eq_nil_of_length_eq_zero h
    rfl
  | k + 1, l, x, y, h => by
    rcases l with _ | ⟨a, _ | ⟨b, t⟩⟩
    · simp at h
    · simp at h
      omega
    · show (a, b) :: pairsL (t ++ [x, y]) = (a, b) :: pairsL t ++ [(x, y)]
      rw [pairs_app k t x y (by simp at h; omega)]
      rfl
theorem pairs_len : ∀ (k : Nat) (l : List Nat), l.length ≤ 2 * k → (pairsL l).length ≤ k
  | 0, l, h => by
    obtain rfl := List.eq_nil_of_length_eq_zero (Nat.le_zero.1 h)
    exact Nat.le_refl _
  | k + 1, l, h => by
    rcases l with _ | ⟨a, _ | ⟨b, t⟩⟩
    · exact Nat.zero_le _
    · exact Nat.zero_le _
    · have := pairs_len k t (by simp at h; omega)
      show (pairsL t).length + 1 ≤ k + 1
      omega
theorem pairs_take {l : List Nat} {k x y : Nat} (hx : l[2 * k]? = some x) (hy : l[2 * k + 1]? = some y) : pairsL (l.take (2 * (k + 1))) = pairsL (l.take (2 * k)) ++ [(x, y)] := by
  have hl := (List.getElem?_eq_some_iff.1 hy).1
  rw [show 2 * (k + 1) = 2 * k + 1 + 1 by omega, List.take_add_one, List.take_add_one, hx, hy, List.append_assoc]
  exact pairs_app k _ x y (by simp; omega)
theorem pairs_odd : ∀ (k : Nat) (l : List Nat), l.length ≤ 2 * k + 1 → pairsL (l.take (2 * k)) = pairsL l
  | 0, l, h => by
    rcases l with _ | ⟨a, _ | ⟨b, t⟩⟩
    · rfl
    · rfl
    · simp at h
  | k + 1, l, h => by
    rcases l with _ | ⟨a, _ | ⟨b, t⟩⟩
    · rfl
    · rfl
    · show (a, b) :: pairsL (t.take (2 * k)) = (a, b) :: pairsL t
      rw [pairs_odd k t (by simp at h; omega)]

set_option maxRecDepth 10000 in
set_option maxHeartbeats 2000000 in
theorem of_any (A : Option Addr) (len c : Nat) (ns : List Nat) (w : World) (hl : ns.length = len) (hlen : len ≤ 10000) (hs : Sv w w.heap.size A (ns.map cell64)) :
    Calls Try.prog 11 #[.slice A len c] w fun e w' => ∃ v, e = .returned v ∧ OwR w.heap.size w' v (pairsL ns) ∧ Below w.heap.size w w' := by
  have HL := Lib.hid hl
  have HS := Lib.hid hs
  clear hl hs
  go_enter Try.func11, Try.ntmps11
  go_wp2
  go_loopw [3, 4] (fun s3 s4 wr => ∃ (k j : Nat), s4 = .int .i64 j ∧ j ≤ len ∧ Hid (j = 2 * k) ∧ Hid (OwR w.heap.size wr s3 (pairsL (ns.take j))) ∧ Hid (Below w.heap.size w wr)) (fun _ s4 _ => len - (intOf s4).toNat)
  case atStart => exact ⟨0, 0, rfl, Nat.zero_le _, Lib.hid rfl, Lib.hid (by simpa [pairsL] using OwR.nil w.heap.size w), Lib.hid (Below.refl _ _)⟩
  case round =>
    obtain ⟨k, j, rfl, hjl, hj, how, hbw⟩ := hrel
    have hwi : IntKind.i64.wrap ((j : Int) + 1) = (j : Int) + 1 := IntWalk.i64_in _ (by omega)
    have hnn : 0 ≤ (j : Int) + 1 := by omega
    have htn : ((j : Int) + 1).toNat = j + 1 := by omega
    by_cases hlt : j + 1 < len
    · obtain ⟨x, hx⟩ : ∃ x, ns[j]? = some x := ⟨_, List.getElem?_eq_getElem (by rw [HL.out]; omega)⟩
      obtain ⟨y, hy⟩ : ∃ y, ns[j + 1]? = some y := ⟨_, List.getElem?_eq_getElem (by rw [HL.out]; omega)⟩
      obtain ⟨g, off, rfl, hg, hcc⟩ := HS.out.at_ (by rw [List.length_map, HL.out]; omega)
      have hx0 : w.cell? ⟨g, off + j, none⟩ = some (.int .u64 (x : Int)) := hcc j (cell64 x) (by rw [List.getElem?_map, hx]; rfl)
      have hy0 : w.cell? ⟨g, off + (j + 1), none⟩ = some (.int .u64 (y : Int)) := hcc (j + 1) (cell64 y) (by rw [List.getElem?_map, hy]; rfl)
      have HPT := Lib.hid (pairs_take (k := k) (x := x) (y := y) (by rw [← hj.out]; exact hx) (by rw [← hj.out]; exact hy))
      have hkl : j < len := by omega
      have hni : ¬ ((len : Int) ≤ (j : Int) + 1) := by omega
      have hki1 : (j : Int) + 1 < (len : Int) := by omega
      have hpl := pairs_len k (ns.take j) (by rw [← hj.out]; simp; omega)
      have hk2 : k ≤ 5000 := by have := hj.out; omega
      have hbase : w.heap.size ≤ wr.heap.size := hbw.out.size
      obtain ⟨out, hout⟩ : ∃ out, out = pairsL (ns.take j) := ⟨_, rfl⟩
      rw [← hout] at how hpl
      have HOUT := Lib.hid hout
      obtain ⟨A9, c9, hv9, _, _⟩ := how.out.form
      subst hv9
      obtain ⟨m, hm⟩ : ∃ m, m = out.length := ⟨_, rfl⟩
      rw [← hm] at hpl how ⊢
      have HM := Lib.hid hm
      clear hcc hx hy hout hm
      go_wp2
      have hG : Below w.heap.size w wr.drew := hbw.out.drew
      refine wp_region_held_drew (S := fun w' => Below w.heap.size w w') (by kernel_rfl) hG (fun _ => ?_)
      refine wpAnyH_take (i := 0) (v := .slice A9 m c9) (List.getElem?_toArray.trans rfl) (by kernel_rfl) (by kernel_rfl) (by kernel_rfl) (fun _ _ _ h => h) (.inl ⟨rfl, fun w' hS => rfl⟩) hG ?_
      refine act_normS (by simp only [Act.put, List.setIfInBounds_toArray, List.set_cons_zero, List.set_cons_succ]; rfl) ?_
      refine wpAnyH_take (i := 1) (v := .slice (some ⟨g, off, none⟩) len c) (List.getElem?_toArray.trans rfl) (by kernel_rfl) (by kernel_rfl) (by kernel_rfl) (fun _ _ _ h => h) (.inl ⟨rfl, fun w' hS => rfl⟩) hG ?_
      refine act_normS (by simp only [Act.put, List.setIfInBounds_toArray, List.set_cons_zero, List.set_cons_succ]; rfl) ?_
      refine wpAnyH_take (i := 2) (v := .int .i64 (j : Int)) (List.getElem?_toArray.trans rfl) (by kernel_rfl) (by kernel_rfl) (by kernel_rfl) (fun _ _ _ h => h) (.inl ⟨rfl, fun w' hS => rfl⟩) hG ?_
      refine act_normS (by simp only [Act.put, List.setIfInBounds_toArray, List.set_cons_zero, List.set_cons_succ]; rfl) ?_
      refine wpAnyH_take (i := 3) (v := .pointer (some ⟨g, off + j, none⟩)) (List.getElem?_toArray.trans rfl) (by kernel_rfl) (by kernel_rfl) (by kernel_rfl) (fun _ _ _ h => h) (.inl ⟨rfl, fun w' hS => by simp [go_sem, hkl]⟩) hG ?_
      refine act_normS (by simp only [Act.put, List.setIfInBounds_toArray, List.set_cons_zero, List.set_cons_succ]; rfl) ?_
      refine wpAnyH_take (i := 4) (v := .int .u64 (x : Int)) (List.getElem?_toArray.trans rfl) (by kernel_rfl) (by kernel_rfl) (by kernel_rfl) (fun _ _ _ h => h) (.inl ⟨rfl, fun w' hS => by have hc := (hS.cell (p := ⟨g, off + j, none⟩) hg).trans hx0; simp [go_sem, hc]⟩) hG ?_
      refine act_normS (by simp only [Act.put, List.setIfInBounds_toArray, List.set_cons_zero, List.set_cons_succ]; rfl) ?_
      refine wpAnyH_take (i := 5) (v := .slice (some ⟨g, off, none⟩) len c) (List.getElem?_toArray.trans rfl) (by kernel_rfl) (by kernel_rfl) (by kernel_rfl) (fun _ _ _ h => h) (.inl ⟨rfl, fun w' hS => rfl⟩) hG ?_
      refine act_normS (by simp only [Act.put, List.setIfInBounds_toArray, List.set_cons_zero, List.set_cons_succ]; rfl) ?_
      refine wpAnyH_take (i := 6) (v := .int .i64 (j : Int)) (List.getElem?_toArray.trans rfl) (by kernel_rfl) (by kernel_rfl) (by kernel_rfl) (fun _ _ _ h => h) (.inl ⟨rfl, fun w' hS => rfl⟩) hG ?_
      refine act_normS (by simp only [Act.put, List.setIfInBounds_toArray, List.set_cons_zero, List.set_cons_succ]; rfl) ?_
      refine wpAnyH_take (i := 7) (v := .int .i64 ((j : Int) + 1)) (List.getElem?_toArray.trans rfl) (by kernel_rfl) (by kernel_rfl) (by kernel_rfl) (fun _ _ _ h => h) (.inl ⟨rfl, fun w' hS => by simp [go_sem, hwi]⟩) hG ?_
      refine act_normS (by simp only [Act.put, List.setIfInBounds_toArray, List.set_cons_zero, List.set_cons_succ]; rfl) ?_
      refine wpAnyH_take (i := 8) (v := .pointer (some ⟨g, off + (j + 1), none⟩)) (List.getElem?_toArray.trans rfl) (by kernel_rfl) (by kernel_rfl) (by kernel_rfl) (fun _ _ _ h => h) (.inl ⟨rfl, fun w' hS => by simp [go_sem, htn, hnn, hni]⟩) hG ?_
      refine act_normS (by simp only [Act.put, List.setIfInBounds_toArray, List.set_cons_zero, List.set_cons_succ]; rfl) ?_
      refine wpAnyH_take (i := 9) (v := .int .u64 (y : Int)) (List.getElem?_toArray.trans rfl) (by kernel_rfl) (by kernel_rfl) (by kernel_rfl) (fun _ _ _ h => h) (.inl ⟨rfl, fun w' hS => by have hc := (hS.cell (p := ⟨g, off + (j + 1), none⟩) hg).trans hy0; simp [go_sem, hc]⟩) hG ?_
      refine act_normS (by simp only [Act.put, List.setIfInBounds_toArray, List.set_cons_zero, List.set_cons_succ]; rfl) ?_
      refine wpAnyH_take (i := 10) (v := .agg #[.int .u64 (x : Int), .int .u64 (y : Int)]) (List.getElem?_toArray.trans rfl) (by kernel_rfl) (by kernel_rfl) (by kernel_rfl) (fun _ _ _ h => h) (.inl ⟨rfl, fun w' hS => by simp [go_sem]⟩) hG ?_
      refine act_normS (by simp only [Act.put, List.setIfInBounds_toArray, List.set_cons_zero, List.set_cons_succ]; rfl) ?_
      refine wpAnyH_ready (rs := [11]) (by kernel_rfl) (by simp) (AllReadyH.cons (List.getElem?_toArray.trans rfl) (fun K' hK => ?_) AllReadyH.nil)
      refine wanted_goS rfl ?_
      go_simp
      have hbl : Below wr.heap.size wr (wr.drew.alloc (.cells #[.int .u64 (x : Int), .int .u64 (y : Int)] 37)) := (Below.refl wr.heap.size wr).drew.alloc (Nat.le_refl _) _
      have hrl : Rs (wr.drew.alloc (.cells #[.int .u64 (x : Int), .int .u64 (y : Int)] 37)) (wr.heap.size + 1) (some ⟨wr.heap.size, 0, none⟩) [(x, y)] := rs_new_at wr.drew (x, y) _ rfl
      have hol2 := how.out.below hbl
      have hbl2 : Below w.heap.size w (wr.drew.alloc (.cells #[.int .u64 (x : Int), .int .u64 (y : Int)] 37)) := hbw.out.trans (hbl.mono hbase)
      refine hK.out _ _ (hbl2) (fun _ => ?_)
      clear hK K'
      refine wpAnyH_ready (rs := [12]) (by kernel_rfl) (by simp) (AllReadyH.cons (List.getElem?_toArray.trans rfl) (fun K' hK => ?_) AllReadyH.nil)
      refine step_app_rg rfl (.tmp 12) (.tmp 23) rfl w.heap.size (.slice A9 m c9) out rfl hol2 _ (some ⟨wr.heap.size, 0, none⟩) 1 1 [(x, y)] rfl hrl rfl (by rw [← HM.out]; omega) hbl2.size ?_
      intro v5 w5 ho5 hg5 _
      have hb5 : Below w.heap.size w w5 := hbl2.grown hg5 hbl2.size (fun q hq => (hol2.ge hq).1)
      refine hK.out _ _ (hb5) (fun _ => ?_)
      clear hK K'
      refine wpAnyH_take (i := 13) (v := v5) (List.getElem?_toArray.trans rfl) (by kernel_rfl) (by kernel_rfl) (by kernel_rfl) (fun _ _ _ h => h) (.inl ⟨rfl, fun w' hS => rfl⟩) hb5 ?_
      refine act_normS (by simp only [Act.put, List.setIfInBounds_toArray, List.set_cons_zero, List.set_cons_succ]; rfl) ?_
      refine wpAnyH_done (by kernel_rfl) ?_ _
      have HO5 := Lib.hid ho5
      have HB5 := Lib.hid hb5
      clear hG hbl hrl hol2 hbl2 ho5 hg5 hb5 how hbw
      have hj2 : Hid (j + 2 = 2 * (k + 1)) := Lib.hid (by have := hj.out; omega)
      go_wp2
      go_roundw
      case rel => exact ⟨k + 1, j + 2, by go_num, by omega, hj2, Lib.hid (by rw [hj2.out, HPT.out, ← hj.out, ← HOUT.out]; exact HO5.out), HB5⟩
      case measure => simp [intOf]; omega
    · have d1 : decide ((j : Int) + 1 < (len : Int)) = false := decide_eq_false (by omega)
      have HOF := Lib.hid (by have := how.out; rwa [hj.out, pairs_odd k ns (by have := hj.out; rw [HL.out]; omega)] at this)
      clear how
      go_wp2
      go_ret
      exact ⟨_, rfl, HOF.out, hbw.out⟩

end Go.Proofs.Ytkmnhlcjeebejaa
