/-
  gcm.hash.take: a block taken in. Printed by tools/gen_gctake.py.
-/
import Derived.Test.YtajfpbkeabdcaaaGcBl
namespace Go.Proofs.Ytajfpbkeabdcaaa
open Go.RowKit
set_option linter.unusedVariables false

/-- A hash in memory: its factor, its sum. -/
def hL (f s : W128) : List Value := pL f ++ pL s
def hRow (f s : W128) : Array Value := (hL f s).toArray
theorem hL_0 (f s : W128) : ∀ (j : Nat) (v : Value), (pL f)[j]? = some v → (hL f s)[0 + j]? = some v := fun j v h => by
  rw [Nat.zero_add, hL, List.getElem?_append_left (List.getElem?_eq_some_iff.1 h).1]
  exact h
theorem hL_2 (f s : W128) : ∀ (j : Nat) (v : Value), (pL s)[j]? = some v → (hL f s)[2 + j]? = some v := fun j v h => by
  rw [hL, List.getElem?_append_right (by rw [pL_len]; omega), pL_len, show 2 + j - 2 = j by omega]
  exact h
theorem hRow_f {w : World} {h : Nat} {t : TypeId} {f s : W128} (hw : Wh w h t (hRow f s)) : w.rangeAt h 0 (pL f) := Wh.part hw 0 (pL f) (hL_0 f s)
theorem hRow_s {w : World} {h : Nat} {t : TypeId} {f s : W128} (hw : Wh w h t (hRow f s)) : w.rangeAt h 2 (pL s) := Wh.part hw 2 (pL s) (hL_2 f s)
theorem hRow_put {w : World} {h : Nat} {t : TypeId} {f s u : W128} (hw : Wh w h t (hRow f s)) : Wh (w.setCells h 2 (pL u)) h t (hRow f u) ∧ w.grownBy (w.setCells h 2 (pL u)) (some h) := Wh.puts (pL u) 2 (hL f s) w hw (by simp [hL, pL])
theorem hRow_there {w : World} {h : Nat} {t : TypeId} {f s : W128} (hw : Wh w h t (hRow f s)) : w.there h 2 2 := Wh.thereL hw 2 2 (by simp [hL, pL])

set_option maxRecDepth 100000 in
set_option maxHeartbeats 400000 in
theorem hashtake_any (h : Nat) (f s u : W128) (w : World) (hh : Wh w h 51 (hRow f s)) :
    Calls Try.prog 33 #[.pointer (some ⟨h, 0, none⟩), .agg (pRow u)] w fun e w' => e = .returned (.tuple #[]) ∧ Wh w' h 51 (hRow f (tmG (s ^^^ u) f)) ∧ w.grownBy w' (some h) := by
  have hb1 := Wh.new w 48 (pRow u)
  have hh1 := hh.alloc (.cells (pRow u) 48)
  have hg1 : w.grownBy (w.alloc (.cells (pRow u) 48)) (some h) := grown_alloc (World.grownBy.refl w _) _
  have hlt := hh.lt
  go_enter Try.func33, Try.ntmps33
  go_wp2_with fail
  generalize w.alloc (.cells (pRow u) 48) = W at *
  obtain ⟨b, hb⟩ : ∃ b, b = w.heap.size := ⟨_, rfl⟩
  rw [← hb] at hb1 ⊢
  have hhb : h < b := by omega
  have HH := Lib.hid hh1
  have HB := Lib.hid hb1
  have HG := Lib.hid hg1
  clear hb hh hlt hh1 hb1 hg1
  have hG : W.drew.rangeAt h 0 (pL f) ∧ Wh W.drew b 48 (pRow u) := ⟨hRow_f (HH.out.below (Below.refl _ _).drew HH.out.lt), HB.out.below (Below.refl _ _).drew HB.out.lt⟩
  refine wp_region_held_drew (S := fun w' => w'.rangeAt h 0 (pL f) ∧ Wh w' b 48 (pRow u)) (by kernel_rfl) hG (fun _ => ?_)
  refine wpAnyH_take (i := 0) (v := .pointer (some ⟨h, 0, none⟩)) (List.getElem?_toArray.trans rfl) (by kernel_rfl) (by kernel_rfl) (by kernel_rfl) (fun _ _ _ h => h) (.inl ⟨rfl, fun w' hS => rfl⟩) hG ?_
  refine act_normM (by simp only [Act.put, List.setIfInBounds_toArray, List.set_cons_zero, List.set_cons_succ]; rfl) ?_
  refine wpAnyH_take (i := 1) (v := .pointer (some ⟨h, 0, none⟩)) (List.getElem?_toArray.trans rfl) (by kernel_rfl) (by kernel_rfl) (by kernel_rfl) (fun _ _ _ h => h) (.inl ⟨rfl, fun w' hS => rfl⟩) hG ?_
  refine act_normM (by simp only [Act.put, List.setIfInBounds_toArray, List.set_cons_zero, List.set_cons_succ]; rfl) ?_
  refine wpAnyH_take (i := 2) (v := .pointer (some ⟨h, 0, none⟩)) (List.getElem?_toArray.trans rfl) (by kernel_rfl) (by kernel_rfl) (by kernel_rfl) (fun _ _ _ h => h) (.inl ⟨rfl, fun w' hS => by simp [go_sem]⟩) hG ?_
  refine act_normM (by simp only [Act.put, List.setIfInBounds_toArray, List.set_cons_zero, List.set_cons_succ]; rfl) ?_
  refine wpAnyH_take (i := 3) (v := .pointer (some ⟨h, 2, none⟩)) (List.getElem?_toArray.trans rfl) (by kernel_rfl) (by kernel_rfl) (by kernel_rfl) (fun _ _ _ h => h) (.inl ⟨rfl, fun w' hS => by simp [go_sem]⟩) hG ?_
  refine act_normM (by simp only [Act.put, List.setIfInBounds_toArray, List.set_cons_zero, List.set_cons_succ]; rfl) ?_
  refine wpAnyH_take (i := 5) (v := .agg (pRow u)) (List.getElem?_toArray.trans rfl) (by kernel_rfl) (by kernel_rfl) (by kernel_rfl) (fun _ _ _ h => h) (yieldsIf_load_mid (by rfl) 48 (.tmp 3) rfl b 0 rfl (pL u) _ (fun w' hS => Wh.whole hS.2) Try.underlying48 rfl info_pol) hG ?_
  refine act_normM (by simp only [Act.put, List.setIfInBounds_toArray, List.set_cons_zero, List.set_cons_succ]; rfl) ?_
  refine wpAnyH_take (i := 7) (v := .pointer (some ⟨h, 0, none⟩)) (List.getElem?_toArray.trans rfl) (by kernel_rfl) (by kernel_rfl) (by kernel_rfl) (fun _ _ _ h => h) (.inl ⟨rfl, fun w' hS => rfl⟩) hG ?_
  refine act_normM (by simp only [Act.put, List.setIfInBounds_toArray, List.set_cons_zero, List.set_cons_succ]; rfl) ?_
  refine wpAnyH_take (i := 8) (v := .pointer (some ⟨h, 0, none⟩)) (List.getElem?_toArray.trans rfl) (by kernel_rfl) (by kernel_rfl) (by kernel_rfl) (fun _ _ _ h => h) (.inl ⟨rfl, fun w' hS => by simp [go_sem]⟩) hG ?_
  refine act_normM (by simp only [Act.put, List.setIfInBounds_toArray, List.set_cons_zero, List.set_cons_succ]; rfl) ?_
  refine wpAnyH_take (i := 9) (v := .pointer (some ⟨h, 0, none⟩)) (List.getElem?_toArray.trans rfl) (by kernel_rfl) (by kernel_rfl) (by kernel_rfl) (fun _ _ _ h => h) (.inl ⟨rfl, fun w' hS => by simp [go_sem]⟩) hG ?_
  refine act_normM (by simp only [Act.put, List.setIfInBounds_toArray, List.set_cons_zero, List.set_cons_succ]; rfl) ?_
  refine wpAnyH_take (i := 10) (v := .agg (pRow f)) (List.getElem?_toArray.trans rfl) (by kernel_rfl) (by kernel_rfl) (by kernel_rfl) (fun _ _ _ h => h) (yieldsIf_load_mid (by rfl) 48 (.tmp 13) rfl h 0 rfl (pL f) _ (fun w' hS => hS.1) Try.underlying48 rfl info_pol) hG ?_
  refine act_normM (by simp only [Act.put, List.setIfInBounds_toArray, List.set_cons_zero, List.set_cons_succ]; rfl) ?_
  refine wpAnyH_ready (rs := [4]) (by kernel_rfl) (by simp) (AllReadyH.cons (List.getElem?_toArray.trans rfl) (fun K' hK => ?_) AllReadyH.nil)
  refine wanted_goM rfl ?_
  refine wp_load_mid 48 (.tmp 7) rfl h 2 rfl (pL s) _ (hRow_s (HH.out.below (Below.refl _ _).drew HH.out.lt)) Try.underlying48 rfl info_pol ?_
  refine hK.out _ _ hG (fun _ => ?_)
  clear hK K'
  refine wpAnyH_ready (rs := [6]) (by kernel_rfl) (by simp) (AllReadyH.cons (List.getElem?_toArray.trans rfl) (fun K' hK => ?_) AllReadyH.nil)
  refine wanted_goM rfl ?_
  go_simp
  refine (plus_any s u W.drew).mono ?_
  rintro e w3 ⟨rfl, hb3⟩
  have HB3 : Hid (Below W.heap.size W w3) := Lib.hid ((Below.refl _ _).drew.trans hb3)
  have hG3 : w3.rangeAt h 0 (pL f) ∧ Wh w3 b 48 (pRow u) := ⟨hRow_f (HH.out.below HB3.out HH.out.lt), HB.out.below HB3.out HB.out.lt⟩
  clear hb3
  refine hK.out _ _ hG3 (fun _ => ?_)
  clear hK K'
  refine wpAnyH_ready (rs := [11]) (by kernel_rfl) (by simp) (AllReadyH.cons (List.getElem?_toArray.trans rfl) (fun K' hK => ?_) AllReadyH.nil)
  refine wanted_goM rfl ?_
  go_simp
  refine (polytimes_any (s ^^^ u) f w3).mono ?_
  rintro e w5 ⟨rfl, hb5⟩
  have HB5 : Hid (Below W.heap.size W w5) := Lib.hid (HB3.out.trans (hb5.mono HB3.out.size))
  have hG5 : w5.rangeAt h 0 (pL f) ∧ Wh w5 b 48 (pRow u) := ⟨hRow_f (HH.out.below HB5.out HH.out.lt), HB.out.below HB5.out HB.out.lt⟩
  clear hb5
  refine hK.out _ _ hG5 (fun _ => ?_)
  clear hK K'
  refine wpAnyH_take (i := 12) (v := .pointer (some ⟨h, 0, none⟩)) (List.getElem?_toArray.trans rfl) (by kernel_rfl) (by kernel_rfl) (by kernel_rfl) (fun _ _ _ h => h) (.inl ⟨rfl, fun w' hS => by simp [go_sem]⟩) hG5 ?_
  refine act_normM (by simp only [Act.put, List.setIfInBounds_toArray, List.set_cons_zero, List.set_cons_succ]; rfl) ?_
  refine wpAnyH_take (i := 13) (v := .pointer (some ⟨h, 2, none⟩)) (List.getElem?_toArray.trans rfl) (by kernel_rfl) (by kernel_rfl) (by kernel_rfl) (fun _ _ _ h => h) (.inl ⟨rfl, fun w' hS => by simp [go_sem]⟩) hG5 ?_
  refine act_normM (by simp only [Act.put, List.setIfInBounds_toArray, List.set_cons_zero, List.set_cons_succ]; rfl) ?_
  have hN5 := HH.out.below HB5.out HH.out.lt
  obtain ⟨hs1, hs2⟩ := hRow_put (u := tmG (s ^^^ u) f) hN5
  have hG6 : (w5.setCells h 2 (pL (tmG (s ^^^ u) f))).rangeAt h 0 (pL f) ∧ Wh (w5.setCells h 2 (pL (tmG (s ^^^ u) f))) b 48 (pRow u) := ⟨hRow_f hs1, hG5.2.grown hs2 (by intro e; have := Option.some.inj e; omega)⟩
  refine wpAnyH_ready (rs := [14]) (by kernel_rfl) (by simp) (AllReadyH.cons (List.getElem?_toArray.trans rfl) (fun K' hK => ?_) AllReadyH.nil)
  refine wanted_goM rfl ?_
  refine wp_store_mid 48 (.tmp 17) (.tmp 15) rfl h 2 (pRow (tmG (s ^^^ u) f)) rfl rfl (hRow_there hN5) info_pol (pL_one _) ?_
  refine hK.out _ _ hG6 (fun _ => ?_)
  clear hK K'
  refine wpAnyH_done (by kernel_rfl) ?_ _
  have HW6 := Lib.hid hs1
  have HG6 := Lib.hid (grown_trans (grown_trans HG.out (grown_below (row := some h) HB5.out)) hs2)
  clear hG hG3 hG5 hG6 hN5 hs1 hs2
  simp only [Act.put]
  go_wp2
  go_end0
  exact ⟨rfl, HW6.out, HG6.out⟩
end Go.Proofs.Ytajfpbkeabdcaaa
