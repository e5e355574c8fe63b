/-
  The walk through hostlerref11.put: made by tools/gen_spput.py.
-/
import Derived.Test.YtkmnhlcjeebejaaSpRef
import Derived.Test.YtkmnhlcjeebejaaSpDraw
namespace Go.Proofs.Ytkmnhlcjeebejaa
open Go.RowKit
set_option linter.unusedVariables false

theorem info64S : (Try.prog.info? 27).map (fun i => (i.zero, i.size, i.bytes)) = some (some (.int .u64 0), 1, 8) := by kernel_rfl

theorem cell64_one (l : List Nat) : ∀ u ∈ l.map cell64, u.oneCell' = true := by
  intro u hu
  obtain ⟨_, _, rfl⟩ := List.mem_map.1 hu
  rfl

/-- Where a number stands in a rising list. -/
def posL : List Nat → Nat → Nat
  | [], _ => 0
  | y :: l, x => if y < x then posL l x + 1 else 0

theorem posL_le : ∀ (l : List Nat) (x : Nat), posL l x ≤ l.length
  | [], _ => Nat.le_refl _
  | y :: l, x => by
    have := posL_le l x
    unfold posL
    split <;> simp <;> omega
theorem posL_lt : ∀ (l : List Nat) (x i y : Nat), i < posL l x → l[i]? = some y → y < x
  | [], _, _, _, h, _ => by simp [posL] at h
  | z :: l, x, i, y, h, hy => by
    unfold posL at h
    split at h
    · cases i with
      | zero =>
        simp at hy
        omega
      | succ i => exact posL_lt l x i y (by omega) (by simpa using hy)
    · omega
theorem posL_end : ∀ (l : List Nat) (x y : Nat), l[posL l x]? = some y → x ≤ y
  | [], _, _, h => by simp at h
  | z :: l, x, y, h => by
    by_cases hz : z < x
    · have e : posL (z :: l) x = posL l x + 1 := by simp [posL, hz]
      rw [e] at h
      exact posL_end l x y (by simpa using h)
    · have e : posL (z :: l) x = 0 := by simp [posL, hz]
      rw [e] at h
      simp at h
      omega

/-- A number put in its place. -/
theorem put_new {l : List Nat} {x : Nat} (hs : l.Pairwise (· < ·)) (hx : ∀ y, l[posL l x]? = some y → y ≠ x) : (l.take (posL l x) ++ (x :: l.drop (posL l x))).Pairwise (· < ·) ∧ ∀ z, z ∈ l.take (posL l x) ++ (x :: l.drop (posL l x)) ↔ z ∈ l ∨ z = x := by
  have h1 : ∀ a ∈ l.take (posL l x), a < x := by
    intro a ha
    obtain ⟨i, hi⟩ := List.mem_iff_getElem?.1 ha
    have hlt : i < posL l x := by have := (List.getElem?_eq_some_iff.1 hi).1; simp at this; omega
    rw [List.getElem?_take_of_lt hlt] at hi
    exact posL_lt l x i a hlt hi
  have h2 : ∀ b ∈ l.drop (posL l x), x < b := by
    intro b hb
    obtain ⟨i, hi⟩ := List.mem_iff_getElem?.1 hb
    rw [List.getElem?_drop] at hi
    have hlt := (List.getElem?_eq_some_iff.1 hi).1
    obtain ⟨y, hy⟩ : ∃ y, l[posL l x]? = some y := ⟨_, List.getElem?_eq_getElem (by omega)⟩
    have e1 := posL_end l x y hy
    have e2 := hx y hy
    rcases Nat.eq_zero_or_pos i with h0 | h0
    · subst h0
      rw [Nat.add_zero, hy] at hi
      obtain rfl := Option.some.inj hi
      omega
    · have g1 := List.getElem?_eq_some_iff.1 hy
      have g2 := List.getElem?_eq_some_iff.1 hi
      have := List.pairwise_iff_getElem.1 hs (posL l x) (posL l x + i) g1.1 g2.1 (by omega)
      rw [g1.2, g2.2] at this
      omega
  refine ⟨?_, fun z => ?_⟩
  · rw [List.pairwise_append, List.pairwise_cons]
    refine ⟨hs.sublist (List.take_sublist _ _), ⟨h2, hs.sublist (List.drop_sublist _ _)⟩, fun a ha b hb => ?_⟩
    have := h1 a ha
    rcases List.mem_cons.1 hb with rfl | hb
    · exact this
    · have := h2 b hb
      omega
  · conv => rhs; rw [← List.take_append_drop (posL l x) l]
    simp only [List.mem_append, List.mem_cons]
    constructor
    · rintro (h | h | h)
      · exact .inl (.inl h)
      · exact .inr h
      · exact .inl (.inr h)
    · rintro ((h | h) | h)
      · exact .inl h
      · exact .inr (.inr h)
      · exact .inr (.inl h)

/-- A rising list of numbers, somewhere in memory. -/
def RisesAt (p : Nat → Prop) (m : Nat) (w : World) (v : Value) : Prop :=
  ∃ (A : Option Addr) (c : Nat) (l : List Nat), v = .slice A l.length c ∧ l.length ≤ c ∧ c ≤ maxLen ∧ Sv w w.heap.size A (l.map cell64) ∧ l.Pairwise (· < ·) ∧ (∀ x, x ∈ l ↔ p x) ∧ l.length ≤ m
theorem RisesAt.below {p : Nat → Prop} {m : Nat} {w w' : World} {v : Value} (h : RisesAt p m w v) (hb : Below w.heap.size w w') : RisesAt p m w' v := by
  obtain ⟨A, c, l, h1, h2, h3, h4, h5⟩ := h
  exact ⟨A, c, l, h1, h2, h3, h4.keep hb.size fun p hp => hb.cell hp, h5⟩
theorem RisesAt.nil (w : World) : RisesAt (fun _ => False) 0 w (.slice none 0 0) := ⟨none, 0, [], rfl, Nat.le_refl _, Nat.zero_le _, Sv.nil _ _ _, List.Pairwise.nil, fun x => by simp, Nat.le_refl _⟩

--WALK
set_option maxRecDepth 10000 in
set_option maxHeartbeats 2000000 in
theorem put_any (p : Nat → Prop) (m : Nat) (v : Value) (n : Nat) (w : World) (h : RisesAt p m w v) (hm : m ≤ 100000) :
    Calls Try.prog 40 #[v, .int .u64 (n : Int)] w fun e w' => ∃ v', e = .returned v' ∧ RisesAt (fun x => p x ∨ x = n) (m + 1) w' v' ∧ Below w.heap.size w w' := by
  obtain ⟨A, c, l, rfl, hc, hcm, hs, hp, hmem, hlm⟩ := h
  obtain ⟨i0, hi0, hz0, hz1, hz2⟩ := info_parts info64S
  have hpl := posL_le l n
  have HPLT := Lib.hid (posL_lt l n)
  have HPE := Lib.hid (posL_end l n)
  have HS := Lib.hid hs
  have HP := Lib.hid hp
  have HMEM := Lib.hid hmem
  have HPN := Lib.hid (fun hx => put_new (x := n) hp hx)
  obtain ⟨len, hlen⟩ : ∃ len, len = l.length := ⟨_, rfl⟩
  obtain ⟨k0, hk0⟩ : ∃ k0, k0 = posL l n := ⟨_, rfl⟩
  rw [← hk0, ← hlen] at hpl
  rw [← hk0] at HPLT HPE HPN
  rw [← hlen] at hc hlm ⊢
  have HLEN := Lib.hid hlen
  have HCM := Lib.hid hcm
  unfold maxLen at hcm
  clear hs hp hmem hlen hk0
  go_enter Try.func40, Try.ntmps40
  go_wp2
  go_loop [5] (fun s5 => ∃ k : Nat, k ≤ k0 ∧ s5 = .int .i64 k) (fun s5 => k0 - (intOf s5).toNat)
  case atStart => exact ⟨0, Nat.zero_le _, rfl⟩
  case round =>
    obtain ⟨k, hk, rfl⟩ := hrel
    by_cases hlt : k < k0
    · obtain ⟨y, hy⟩ : ∃ y, l[k]? = some y := ⟨_, List.getElem?_eq_getElem (by rw [← HLEN.out]; omega)⟩
      obtain ⟨b, off, rfl, hb, hcc⟩ := HS.out.at_ (by rw [List.length_map, ← HLEN.out]; omega)
      have hc0 : w.cell? ⟨b, off + k, none⟩ = some (.int .u64 (y : Int)) := hcc k (cell64 y) (by rw [List.getElem?_map, hy]; rfl)
      have hyn := HPLT.out k y hlt hy
      have t1 : decide (y < n) = true := decide_eq_true hyn
      have d1 : decide (k < len) = true := decide_eq_true (by omega)
      have hkl : k < len := by omega
      clear hcc hy
      go_wp2
      go_round
      case rel => exact ⟨k + 1, by omega, by go_num⟩
      case measure => simp [intOf]; omega
    · obtain rfl : k = k0 := by omega
      by_cases hkl : k < len
      · obtain ⟨y, hy⟩ : ∃ y, l[k]? = some y := ⟨_, List.getElem?_eq_getElem (by rw [← HLEN.out]; omega)⟩
        obtain ⟨b, off, rfl, hb, hcc⟩ := HS.out.at_ (by rw [List.length_map, ← HLEN.out]; omega)
        have hc0 : w.cell? ⟨b, off + k, none⟩ = some (.int .u64 (y : Int)) := hcc k (cell64 y) (by rw [List.getElem?_map, hy]; rfl)
        have hyn := HPE.out y hy
        have t1 : decide (y < n) = false := decide_eq_false (by omega)
        have d1 : decide (k < len) = true := decide_eq_true (by omega)
        have HY := Lib.hid hy
        clear hcc hy
        by_cases hyx : y = n
        · have t2 : ((y : Int) == (n : Int)) = true := by rw [beq_iff_eq]; omega
          have HYX := Lib.hid hyx
          clear hyx
          go_wp2
          go_ret
          refine ⟨_, rfl, ⟨some ⟨b, off, none⟩, c, l, by rw [← HLEN.out]; rfl, by rw [← HLEN.out]; exact hc, HCM.out, HS.out, HP.out, fun x => ?_, by rw [← HLEN.out]; omega⟩, Below.refl _ _⟩
          rw [HMEM.out]
          constructor
          · exact fun h => .inl h
          · rintro (h | h)
            · exact h
            · rw [h, ← HYX.out]
              exact (HMEM.out y).1 (List.mem_of_getElem? HY.out)
        · have t2 : ((y : Int) == (n : Int)) = false := by rw [beq_eq_false_iff_ne]; omega
          have HPW := Lib.hid (HPN.out fun z hz => by rw [HY.out] at hz; obtain rfl := Option.some.inj hz; exact hyx)
          go_wp2
          have hkc : k ≤ c := by omega
          have hkl2 : k ≤ len := by omega
          obtain ⟨A3, hA3⟩ : ∃ A3 : Option Addr, A3 = (if c = k then (some ⟨b, off, none⟩) else Option.map (fun x : Addr => x.add k) (some ⟨b, off, none⟩)) := ⟨_, rfl⟩
          obtain ⟨m3, hm3⟩ : ∃ m3, m3 = len - k := ⟨_, rfl⟩
          obtain ⟨c3, hc3⟩ : ∃ c3, c3 = c - k := ⟨_, rfl⟩
          have hG : Below w.heap.size w w.drew := (Below.refl _ _).drew
          refine wp_region_held_drew (S := fun w' => Below w.heap.size w w') (by kernel_rfl) hG (fun _ => ?_)
          refine wpAnyH_take (i := 1) (v := .slice (some ⟨b, off, none⟩) len c) (List.getElem?_toArray.trans rfl) (by kernel_rfl) (by kernel_rfl) (by kernel_rfl) (fun _ _ _ h => h) (.inl ⟨rfl, fun w' hS => rfl⟩) hG ?_
          refine act_normS (by simp only [Act.put, List.setIfInBounds_toArray, List.set_cons_zero, List.set_cons_succ]; rfl) ?_
          refine wpAnyH_take (i := 2) (v := .int .i64 (k : Int)) (List.getElem?_toArray.trans rfl) (by kernel_rfl) (by kernel_rfl) (by kernel_rfl) (fun _ _ _ h => h) (.inl ⟨rfl, fun w' hS => rfl⟩) hG ?_
          refine act_normS (by simp only [Act.put, List.setIfInBounds_toArray, List.set_cons_zero, List.set_cons_succ]; rfl) ?_
          refine wpAnyH_take (i := 3) (v := .slice (some ⟨b, off, none⟩) k c) (List.getElem?_toArray.trans rfl) (by kernel_rfl) (by kernel_rfl) (by kernel_rfl) (fun _ _ _ h => h) (.inl ⟨rfl, fun w' hS => by simp [go_sem, hkc]⟩) hG ?_
          refine act_normS (by simp only [Act.put, List.setIfInBounds_toArray, List.set_cons_zero, List.set_cons_succ]; rfl) ?_
          refine wpAnyH_take (i := 5) (v := .int .u64 (n : Int)) (List.getElem?_toArray.trans rfl) (by kernel_rfl) (by kernel_rfl) (by kernel_rfl) (fun _ _ _ h => h) (.inl ⟨rfl, fun w' hS => rfl⟩) hG ?_
          refine act_normS (by simp only [Act.put, List.setIfInBounds_toArray, List.set_cons_zero, List.set_cons_succ]; rfl) ?_
          refine wpAnyH_take (i := 8) (v := .slice (some ⟨b, off, none⟩) len c) (List.getElem?_toArray.trans rfl) (by kernel_rfl) (by kernel_rfl) (by kernel_rfl) (fun _ _ _ h => h) (.inl ⟨rfl, fun w' hS => rfl⟩) hG ?_
          refine act_normS (by simp only [Act.put, List.setIfInBounds_toArray, List.set_cons_zero, List.set_cons_succ]; rfl) ?_
          refine wpAnyH_take (i := 9) (v := .int .i64 (k : Int)) (List.getElem?_toArray.trans rfl) (by kernel_rfl) (by kernel_rfl) (by kernel_rfl) (fun _ _ _ h => h) (.inl ⟨rfl, fun w' hS => rfl⟩) hG ?_
          refine act_normS (by simp only [Act.put, List.setIfInBounds_toArray, List.set_cons_zero, List.set_cons_succ]; rfl) ?_
          refine wpAnyH_take (i := 10) (v := .slice A3 m3 c3) (List.getElem?_toArray.trans rfl) (by kernel_rfl) (by kernel_rfl) (by kernel_rfl) (fun _ _ _ h => h) (.inl ⟨rfl, fun w' hS => by simp [go_sem, hkl2, hA3, hm3, hc3]⟩) hG ?_
          refine act_normS (by simp only [Act.put, List.setIfInBounds_toArray, List.set_cons_zero, List.set_cons_succ]; rfl) ?_
          have HA3 := Lib.hid hA3
          have hm3a : m3 + k ≤ len := by omega
          have hm3b : len ≤ m3 + k := by omega
          clear hA3 hm3 hc3
          have hbW : Below w.heap.size w w.drew := hG
          clear hG
          generalize w.drew = W at *
          refine wpAnyH_ready (rs := [0, 6]) (by kernel_rfl) (by simp) (AllReadyH.cons (List.getElem?_toArray.trans rfl) (fun K' hK => ?_) (AllReadyH.cons (List.getElem?_toArray.trans rfl) (fun K' hK => ?_) AllReadyH.nil))
          · refine wanted_goS rfl ?_
            go_simp
            have hbu0 : Below w.heap.size w (W.alloc (.cells #[] 27)) := hbW.alloc hbW.size _
            have hou0 : (W.alloc (.cells #[] 27)).ownsRow w.heap.size 27 1 (.slice (some ⟨W.heap.size, 0, none⟩) 0 0) 0 [] := ownR_base (own_none W 27) hbW.size
            refine hK.out _ _ (hbu0) (fun _ => ?_)
            clear hK K'
            generalize hzu0 : W.heap.size = zu0 at *
            generalize W.alloc (.cells #[] 27) = u0 at *
            refine wpAnyH_ready (rs := [4, 6]) (by kernel_rfl) (by simp) (AllReadyH.cons (List.getElem?_toArray.trans rfl) (fun K' hK => ?_) (AllReadyH.cons (List.getElem?_toArray.trans rfl) (fun K' hK => ?_) AllReadyH.nil))
            · refine step_app_sv rfl (.tmp 33) (.tmp 36) 33 rfl w.heap.size 27 i0 _ 8 Try.underlying33 hi0 hz0 hz1 hz2 rfl (.slice (some ⟨zu0, 0, none⟩) 0 0) 0 ([]) rfl hou0 _ (some ⟨b, off, none⟩) k c ((l.take k).map cell64) rfl (by have := (HS.out.take k).below hbu0; rwa [← List.map_take] at this) (by rw [List.length_map, List.length_take, ← HLEN.out]; omega) (cell64_one _) (by unfold maxLen; omega) (by omega) hbu0.size ?_
              intro vu4 u4 hou4 hgu4
              have hbu4 : Below w.heap.size w u4 := hbu0.grown hgu4 hbu0.size (fun q hq => (hou0.lt q hq).1)
              rw [Nat.zero_add, List.nil_append] at hou4
              refine hK.out _ _ (hbu4) (fun _ => ?_)
              clear hK K'
              refine wpAnyH_ready (rs := [6]) (by kernel_rfl) (by simp) (AllReadyH.cons (List.getElem?_toArray.trans rfl) (fun K' hK => ?_) AllReadyH.nil)
              refine wanted_goS rfl ?_
              go_simp
              have hbu6 : Below w.heap.size w (u4.alloc (.cells #[.int .u64 (n : Int)] 27)) := hbu4.alloc hbu4.size _
              have hsx : Sv (u4.alloc (.cells #[.int .u64 (n : Int)] 27)) (u4.heap.size + 1) (some ⟨u4.heap.size, 0, none⟩) [cell64 n] := sv_new u4 _ _
              have hleu6 : u4.heap.size + 1 ≤ (u4.alloc (.cells #[.int .u64 (n : Int)] 27)).heap.size := by simp
              have hwle := hbu4.size
              have hou6 := own_below hou4 ((Below.refl _ u4).alloc (Nat.le_refl _) (.cells #[.int .u64 (n : Int)] 27))
              refine hK.out _ _ (hbu6) (fun _ => ?_)
              clear hK K'
              generalize u4.heap.size = zx at *
              generalize u4.alloc (.cells #[.int .u64 (n : Int)] 27) = u6 at *
              refine wpAnyH_ready (rs := [7]) (by kernel_rfl) (by simp) (AllReadyH.cons (List.getElem?_toArray.trans rfl) (fun K' hK => ?_) AllReadyH.nil)
              refine step_app_sv rfl (.tmp 37) (.tmp 39) 33 rfl w.heap.size 27 i0 _ 8 Try.underlying33 hi0 hz0 hz1 hz2 rfl (vu4) k ((l.take k).map cell64) rfl hou6 _ (some ⟨zx, 0, none⟩) 1 1 ([cell64 n]) rfl hsx rfl (by intro u hu; simp at hu; subst hu; rfl) (by unfold maxLen; omega) (by omega) hbu6.size ?_
              intro vu7 u7 hou7 hgu7
              have hbu7 : Below w.heap.size w u7 := hbu6.grown hgu7 hbu6.size (fun q hq => (hou6.lt q hq).1)
              refine hK.out _ _ (hbu7) (fun _ => ?_)
              clear hK K'
              refine wpAnyH_ready (rs := [11]) (by kernel_rfl) (by simp) (AllReadyH.cons (List.getElem?_toArray.trans rfl) (fun K' hK => ?_) AllReadyH.nil)
              refine step_app_sv rfl (.tmp 40) (.tmp 43) 33 rfl w.heap.size 27 i0 _ 8 Try.underlying33 hi0 hz0 hz1 hz2 rfl (vu7) (k + 1) ((l.take k).map cell64 ++ [cell64 n]) rfl hou7 _ A3 m3 c3 ((l.drop k).map cell64) rfl (by have := (HS.out.cut k m3 c (by rw [List.length_map, ← HLEN.out]; omega)).below hbu7; rw [HA3.out]; rwa [← List.map_drop, ← List.map_take, List.take_of_length_le (by rw [List.length_drop, ← HLEN.out]; omega)] at this) (by rw [List.length_map, List.length_drop, ← HLEN.out]; omega) (cell64_one _) (by unfold maxLen; omega) (by omega) hbu7.size ?_
              intro vu11 u11 hou11 hgu11
              have hbu11 : Below w.heap.size w u11 := hbu7.grown hgu11 hbu7.size (fun q hq => (hou7.lt q hq).1)
              refine hK.out _ _ (hbu11) (fun _ => ?_)
              clear hK K'
              refine wpAnyH_take (i := 12) (v := vu11) (List.getElem?_toArray.trans rfl) (by kernel_rfl) (by kernel_rfl) (by kernel_rfl) (fun _ _ _ h => h) (.inl ⟨rfl, fun w' hS => rfl⟩) hbu11 ?_
              refine act_normS (by simp only [Act.put, List.setIfInBounds_toArray, List.set_cons_zero, List.set_cons_succ]; rfl) ?_
              refine wpAnyH_done (by kernel_rfl) ?_ _

              have HO := Lib.hid hou11
              have HB := Lib.hid hbu11
              clear hou11 hbu11 hgu11 hou7 hbu7 hgu7
              go_wp2
              go_ret
              obtain ⟨A9, c9, rfl, q1, q2⟩ := own_form HO.out
              have hll : (l.take k ++ (n :: l.drop k)).length = k + 1 + m3 := by simp [← HLEN.out]; omega
              refine ⟨_, rfl, ⟨A9, c9, l.take k ++ (n :: l.drop k), by rw [hll]; rfl, by rw [hll]; exact q1, q2, ?_, HPW.out.1, fun x => ?_, by rw [hll]; omega⟩, HB.out⟩
              · have := Sv.of_own HO.out
                simpa using this
              · rw [HPW.out.2, HMEM.out]
            · refine wanted_goS rfl ?_
              go_simp
              have hbu6 : Below w.heap.size w (u0.alloc (.cells #[.int .u64 (n : Int)] 27)) := hbu0.alloc hbu0.size _
              have hsx : Sv (u0.alloc (.cells #[.int .u64 (n : Int)] 27)) (u0.heap.size + 1) (some ⟨u0.heap.size, 0, none⟩) [cell64 n] := sv_new u0 _ _
              have hleu6 : u0.heap.size + 1 ≤ (u0.alloc (.cells #[.int .u64 (n : Int)] 27)).heap.size := by simp
              have hwle := hbu0.size
              have hou6 := own_below hou0 ((Below.refl _ u0).alloc (Nat.le_refl _) (.cells #[.int .u64 (n : Int)] 27))
              have hzx : zu0 < u0.heap.size := (hou0.lt zu0 rfl).2
              refine hK.out _ _ (hbu6) (fun _ => ?_)
              clear hK K'
              generalize u0.heap.size = zx at *
              generalize u0.alloc (.cells #[.int .u64 (n : Int)] 27) = u6 at *
              refine wpAnyH_ready (rs := [4]) (by kernel_rfl) (by simp) (AllReadyH.cons (List.getElem?_toArray.trans rfl) (fun K' hK => ?_) AllReadyH.nil)
              refine step_app_sv rfl (.tmp 33) (.tmp 36) 33 rfl w.heap.size 27 i0 _ 8 Try.underlying33 hi0 hz0 hz1 hz2 rfl (.slice (some ⟨zu0, 0, none⟩) 0 0) 0 ([]) rfl hou6 _ (some ⟨b, off, none⟩) k c ((l.take k).map cell64) rfl (by have := (HS.out.take k).below hbu6; rwa [← List.map_take] at this) (by rw [List.length_map, List.length_take, ← HLEN.out]; omega) (cell64_one _) (by unfold maxLen; omega) (by omega) hbu6.size ?_
              intro vu4 u4 hou4 hgu4
              have hbu4 : Below w.heap.size w u4 := hbu6.grown hgu4 hbu6.size (fun q hq => (hou6.lt q hq).1)
              rw [Nat.zero_add, List.nil_append] at hou4
              have hsx4 : Sv u4 (zx + 1) (some ⟨zx, 0, none⟩) [cell64 n] := by
                intro hne
                obtain ⟨b9, o9, e9, h9, hc9⟩ := hsx hne
                simp only [Option.some.injEq, Addr.mk.injEq, and_true] at e9
                obtain ⟨rfl, rfl⟩ := e9
                exact ⟨zx, 0, rfl, h9, fun i v hv => (World.cell?_of_block (hgu4.block zx (by omega) (by simp [Value.ownBlock]; omega))).trans (hc9 i v hv)⟩
              clear hsx
              have hsx := hsx4
              refine hK.out _ _ (hbu4) (fun _ => ?_)
              clear hK K'
              refine wpAnyH_ready (rs := [7]) (by kernel_rfl) (by simp) (AllReadyH.cons (List.getElem?_toArray.trans rfl) (fun K' hK => ?_) AllReadyH.nil)
              refine step_app_sv rfl (.tmp 37) (.tmp 39) 33 rfl w.heap.size 27 i0 _ 8 Try.underlying33 hi0 hz0 hz1 hz2 rfl (vu4) k ((l.take k).map cell64) rfl hou4 _ (some ⟨zx, 0, none⟩) 1 1 ([cell64 n]) rfl hsx rfl (by intro u hu; simp at hu; subst hu; rfl) (by unfold maxLen; omega) (by omega) hbu4.size ?_
              intro vu7 u7 hou7 hgu7
              have hbu7 : Below w.heap.size w u7 := hbu4.grown hgu7 hbu4.size (fun q hq => (hou4.lt q hq).1)
              refine hK.out _ _ (hbu7) (fun _ => ?_)
              clear hK K'
              refine wpAnyH_ready (rs := [11]) (by kernel_rfl) (by simp) (AllReadyH.cons (List.getElem?_toArray.trans rfl) (fun K' hK => ?_) AllReadyH.nil)
              refine step_app_sv rfl (.tmp 40) (.tmp 43) 33 rfl w.heap.size 27 i0 _ 8 Try.underlying33 hi0 hz0 hz1 hz2 rfl (vu7) (k + 1) ((l.take k).map cell64 ++ [cell64 n]) rfl hou7 _ A3 m3 c3 ((l.drop k).map cell64) rfl (by have := (HS.out.cut k m3 c (by rw [List.length_map, ← HLEN.out]; omega)).below hbu7; rw [HA3.out]; rwa [← List.map_drop, ← List.map_take, List.take_of_length_le (by rw [List.length_drop, ← HLEN.out]; omega)] at this) (by rw [List.length_map, List.length_drop, ← HLEN.out]; omega) (cell64_one _) (by unfold maxLen; omega) (by omega) hbu7.size ?_
              intro vu11 u11 hou11 hgu11
              have hbu11 : Below w.heap.size w u11 := hbu7.grown hgu11 hbu7.size (fun q hq => (hou7.lt q hq).1)
              refine hK.out _ _ (hbu11) (fun _ => ?_)
              clear hK K'
              refine wpAnyH_take (i := 12) (v := vu11) (List.getElem?_toArray.trans rfl) (by kernel_rfl) (by kernel_rfl) (by kernel_rfl) (fun _ _ _ h => h) (.inl ⟨rfl, fun w' hS => rfl⟩) hbu11 ?_
              refine act_normS (by simp only [Act.put, List.setIfInBounds_toArray, List.set_cons_zero, List.set_cons_succ]; rfl) ?_
              refine wpAnyH_done (by kernel_rfl) ?_ _

              have HO := Lib.hid hou11
              have HB := Lib.hid hbu11
              clear hou11 hbu11 hgu11 hou7 hbu7 hgu7
              go_wp2
              go_ret
              obtain ⟨A9, c9, rfl, q1, q2⟩ := own_form HO.out
              have hll : (l.take k ++ (n :: l.drop k)).length = k + 1 + m3 := by simp [← HLEN.out]; omega
              refine ⟨_, rfl, ⟨A9, c9, l.take k ++ (n :: l.drop k), by rw [hll]; rfl, by rw [hll]; exact q1, q2, ?_, HPW.out.1, fun x => ?_, by rw [hll]; omega⟩, HB.out⟩
              · have := Sv.of_own HO.out
                simpa using this
              · rw [HPW.out.2, HMEM.out]
          · refine wanted_goS rfl ?_
            go_simp
            have hbu6 : Below w.heap.size w (W.alloc (.cells #[.int .u64 (n : Int)] 27)) := hbW.alloc hbW.size _
            have hsx : Sv (W.alloc (.cells #[.int .u64 (n : Int)] 27)) (W.heap.size + 1) (some ⟨W.heap.size, 0, none⟩) [cell64 n] := sv_new W _ _
            have hleu6 : W.heap.size + 1 ≤ (W.alloc (.cells #[.int .u64 (n : Int)] 27)).heap.size := by simp
            have hwle := hbW.size
            refine hK.out _ _ (hbu6) (fun _ => ?_)
            clear hK K'
            generalize W.heap.size = zx at *
            generalize W.alloc (.cells #[.int .u64 (n : Int)] 27) = u6 at *
            refine wpAnyH_ready (rs := [0]) (by kernel_rfl) (by simp) (AllReadyH.cons (List.getElem?_toArray.trans rfl) (fun K' hK => ?_) AllReadyH.nil)
            refine wanted_goS rfl ?_
            go_simp
            have hbu0 : Below w.heap.size w (u6.alloc (.cells #[] 27)) := hbu6.alloc hbu6.size _
            have hou0 : (u6.alloc (.cells #[] 27)).ownsRow w.heap.size 27 1 (.slice (some ⟨u6.heap.size, 0, none⟩) 0 0) 0 [] := ownR_base (own_none u6 27) hbu6.size
            have hsx0 := hsx.keep (w' := u6.alloc (.cells #[] 27)) (Nat.le_refl _) fun p hp => ((Below.refl u6.heap.size u6).alloc (Nat.le_refl _) _).cell (Nat.lt_of_lt_of_le hp (by omega))
            clear hsx
            have hsx := hsx0
            refine hK.out _ _ (hbu0) (fun _ => ?_)
            clear hK K'
            generalize hzu0 : u6.heap.size = zu0 at *
            generalize u6.alloc (.cells #[] 27) = u0 at *
            refine wpAnyH_ready (rs := [4]) (by kernel_rfl) (by simp) (AllReadyH.cons (List.getElem?_toArray.trans rfl) (fun K' hK => ?_) AllReadyH.nil)
            refine step_app_sv rfl (.tmp 33) (.tmp 36) 33 rfl w.heap.size 27 i0 _ 8 Try.underlying33 hi0 hz0 hz1 hz2 rfl (.slice (some ⟨zu0, 0, none⟩) 0 0) 0 ([]) rfl hou0 _ (some ⟨b, off, none⟩) k c ((l.take k).map cell64) rfl (by have := (HS.out.take k).below hbu0; rwa [← List.map_take] at this) (by rw [List.length_map, List.length_take, ← HLEN.out]; omega) (cell64_one _) (by unfold maxLen; omega) (by omega) hbu0.size ?_
            intro vu4 u4 hou4 hgu4
            have hbu4 : Below w.heap.size w u4 := hbu0.grown hgu4 hbu0.size (fun q hq => (hou0.lt q hq).1)
            rw [Nat.zero_add, List.nil_append] at hou4
            have hsx4 : Sv u4 (zx + 1) (some ⟨zx, 0, none⟩) [cell64 n] := by
              intro hne
              obtain ⟨b9, o9, e9, h9, hc9⟩ := hsx hne
              simp only [Option.some.injEq, Addr.mk.injEq, and_true] at e9
              obtain ⟨rfl, rfl⟩ := e9
              exact ⟨zx, 0, rfl, h9, fun i v hv => (World.cell?_of_block (hgu4.block zx (by have := (hou0.lt zu0 rfl).2; omega) (by simp [Value.ownBlock]; omega))).trans (hc9 i v hv)⟩
            clear hsx
            have hsx := hsx4
            refine hK.out _ _ (hbu4) (fun _ => ?_)
            clear hK K'
            refine wpAnyH_ready (rs := [7]) (by kernel_rfl) (by simp) (AllReadyH.cons (List.getElem?_toArray.trans rfl) (fun K' hK => ?_) AllReadyH.nil)
            refine step_app_sv rfl (.tmp 37) (.tmp 39) 33 rfl w.heap.size 27 i0 _ 8 Try.underlying33 hi0 hz0 hz1 hz2 rfl (vu4) k ((l.take k).map cell64) rfl hou4 _ (some ⟨zx, 0, none⟩) 1 1 ([cell64 n]) rfl hsx rfl (by intro u hu; simp at hu; subst hu; rfl) (by unfold maxLen; omega) (by omega) hbu4.size ?_
            intro vu7 u7 hou7 hgu7
            have hbu7 : Below w.heap.size w u7 := hbu4.grown hgu7 hbu4.size (fun q hq => (hou4.lt q hq).1)
            refine hK.out _ _ (hbu7) (fun _ => ?_)
            clear hK K'
            refine wpAnyH_ready (rs := [11]) (by kernel_rfl) (by simp) (AllReadyH.cons (List.getElem?_toArray.trans rfl) (fun K' hK => ?_) AllReadyH.nil)
            refine step_app_sv rfl (.tmp 40) (.tmp 43) 33 rfl w.heap.size 27 i0 _ 8 Try.underlying33 hi0 hz0 hz1 hz2 rfl (vu7) (k + 1) ((l.take k).map cell64 ++ [cell64 n]) rfl hou7 _ A3 m3 c3 ((l.drop k).map cell64) rfl (by have := (HS.out.cut k m3 c (by rw [List.length_map, ← HLEN.out]; omega)).below hbu7; rw [HA3.out]; rwa [← List.map_drop, ← List.map_take, List.take_of_length_le (by rw [List.length_drop, ← HLEN.out]; omega)] at this) (by rw [List.length_map, List.length_drop, ← HLEN.out]; omega) (cell64_one _) (by unfold maxLen; omega) (by omega) hbu7.size ?_
            intro vu11 u11 hou11 hgu11
            have hbu11 : Below w.heap.size w u11 := hbu7.grown hgu11 hbu7.size (fun q hq => (hou7.lt q hq).1)
            refine hK.out _ _ (hbu11) (fun _ => ?_)
            clear hK K'
            refine wpAnyH_take (i := 12) (v := vu11) (List.getElem?_toArray.trans rfl) (by kernel_rfl) (by kernel_rfl) (by kernel_rfl) (fun _ _ _ h => h) (.inl ⟨rfl, fun w' hS => rfl⟩) hbu11 ?_
            refine act_normS (by simp only [Act.put, List.setIfInBounds_toArray, List.set_cons_zero, List.set_cons_succ]; rfl) ?_
            refine wpAnyH_done (by kernel_rfl) ?_ _

            have HO := Lib.hid hou11
            have HB := Lib.hid hbu11
            clear hou11 hbu11 hgu11 hou7 hbu7 hgu7
            go_wp2
            go_ret
            obtain ⟨A9, c9, rfl, q1, q2⟩ := own_form HO.out
            have hll : (l.take k ++ (n :: l.drop k)).length = k + 1 + m3 := by simp [← HLEN.out]; omega
            refine ⟨_, rfl, ⟨A9, c9, l.take k ++ (n :: l.drop k), by rw [hll]; rfl, by rw [hll]; exact q1, q2, ?_, HPW.out.1, fun x => ?_, by rw [hll]; omega⟩, HB.out⟩
            · have := Sv.of_own HO.out
              simpa using this
            · rw [HPW.out.2, HMEM.out]
      · have d1 : decide (k < len) = false := decide_eq_false hkl
        obtain rfl : k = len := by omega
        have HPW := Lib.hid (HPN.out fun z hz => by have := (List.getElem?_eq_some_iff.1 hz).1; have := HLEN.out; omega)
        go_wp2
        have hkl2 : k ≤ k := Nat.le_refl _
        obtain ⟨A3, hA3⟩ : ∃ A3 : Option Addr, A3 = (if c = k then A else Option.map (fun x : Addr => x.add k) A) := ⟨_, rfl⟩
        obtain ⟨m3, hm3⟩ : ∃ m3, m3 = k - k := ⟨_, rfl⟩
        obtain ⟨c3, hc3⟩ : ∃ c3, c3 = c - k := ⟨_, rfl⟩
        have hG : Below w.heap.size w w.drew := (Below.refl _ _).drew
        refine wp_region_held_drew (S := fun w' => Below w.heap.size w w') (by kernel_rfl) hG (fun _ => ?_)
        refine wpAnyH_take (i := 1) (v := .slice A k c) (List.getElem?_toArray.trans rfl) (by kernel_rfl) (by kernel_rfl) (by kernel_rfl) (fun _ _ _ h => h) (.inl ⟨rfl, fun w' hS => rfl⟩) hG ?_
        refine act_normS (by simp only [Act.put, List.setIfInBounds_toArray, List.set_cons_zero, List.set_cons_succ]; rfl) ?_
        refine wpAnyH_take (i := 2) (v := .int .i64 (k : Int)) (List.getElem?_toArray.trans rfl) (by kernel_rfl) (by kernel_rfl) (by kernel_rfl) (fun _ _ _ h => h) (.inl ⟨rfl, fun w' hS => rfl⟩) hG ?_
        refine act_normS (by simp only [Act.put, List.setIfInBounds_toArray, List.set_cons_zero, List.set_cons_succ]; rfl) ?_
        refine wpAnyH_take (i := 3) (v := .slice A k c) (List.getElem?_toArray.trans rfl) (by kernel_rfl) (by kernel_rfl) (by kernel_rfl) (fun _ _ _ h => h) (.inl ⟨rfl, fun w' hS => by simp [go_sem, hc]⟩) hG ?_
        refine act_normS (by simp only [Act.put, List.setIfInBounds_toArray, List.set_cons_zero, List.set_cons_succ]; rfl) ?_
        refine wpAnyH_take (i := 5) (v := .int .u64 (n : Int)) (List.getElem?_toArray.trans rfl) (by kernel_rfl) (by kernel_rfl) (by kernel_rfl) (fun _ _ _ h => h) (.inl ⟨rfl, fun w' hS => rfl⟩) hG ?_
        refine act_normS (by simp only [Act.put, List.setIfInBounds_toArray, List.set_cons_zero, List.set_cons_succ]; rfl) ?_
        refine wpAnyH_take (i := 8) (v := .slice A k c) (List.getElem?_toArray.trans rfl) (by kernel_rfl) (by kernel_rfl) (by kernel_rfl) (fun _ _ _ h => h) (.inl ⟨rfl, fun w' hS => rfl⟩) hG ?_
        refine act_normS (by simp only [Act.put, List.setIfInBounds_toArray, List.set_cons_zero, List.set_cons_succ]; rfl) ?_
        refine wpAnyH_take (i := 9) (v := .int .i64 (k : Int)) (List.getElem?_toArray.trans rfl) (by kernel_rfl) (by kernel_rfl) (by kernel_rfl) (fun _ _ _ h => h) (.inl ⟨rfl, fun w' hS => rfl⟩) hG ?_
        refine act_normS (by simp only [Act.put, List.setIfInBounds_toArray, List.set_cons_zero, List.set_cons_succ]; rfl) ?_
        refine wpAnyH_take (i := 10) (v := .slice A3 m3 c3) (List.getElem?_toArray.trans rfl) (by kernel_rfl) (by kernel_rfl) (by kernel_rfl) (fun _ _ _ h => h) (.inl ⟨rfl, fun w' hS => by simp [go_sem, hA3, hm3, hc3]⟩) hG ?_
        refine act_normS (by simp only [Act.put, List.setIfInBounds_toArray, List.set_cons_zero, List.set_cons_succ]; rfl) ?_
        have HA3 := Lib.hid hA3
        have hm3a : m3 + k ≤ k := by omega
        have hm3b : k ≤ m3 + k := by omega
        clear hA3 hm3 hc3
        have hbW : Below w.heap.size w w.drew := hG
        clear hG
        generalize w.drew = W at *
        refine wpAnyH_ready (rs := [0, 6]) (by kernel_rfl) (by simp) (AllReadyH.cons (List.getElem?_toArray.trans rfl) (fun K' hK => ?_) (AllReadyH.cons (List.getElem?_toArray.trans rfl) (fun K' hK => ?_) AllReadyH.nil))
        · refine wanted_goS rfl ?_
          go_simp
          have hbu0 : Below w.heap.size w (W.alloc (.cells #[] 27)) := hbW.alloc hbW.size _
          have hou0 : (W.alloc (.cells #[] 27)).ownsRow w.heap.size 27 1 (.slice (some ⟨W.heap.size, 0, none⟩) 0 0) 0 [] := ownR_base (own_none W 27) hbW.size
          refine hK.out _ _ (hbu0) (fun _ => ?_)
          clear hK K'
          generalize hzu0 : W.heap.size = zu0 at *
          generalize W.alloc (.cells #[] 27) = u0 at *
          refine wpAnyH_ready (rs := [4, 6]) (by kernel_rfl) (by simp) (AllReadyH.cons (List.getElem?_toArray.trans rfl) (fun K' hK => ?_) (AllReadyH.cons (List.getElem?_toArray.trans rfl) (fun K' hK => ?_) AllReadyH.nil))
          · refine step_app_sv rfl (.tmp 33) (.tmp 36) 33 rfl w.heap.size 27 i0 _ 8 Try.underlying33 hi0 hz0 hz1 hz2 rfl (.slice (some ⟨zu0, 0, none⟩) 0 0) 0 ([]) rfl hou0 _ A k c ((l.take k).map cell64) rfl (by have := (HS.out.take k).below hbu0; rwa [← List.map_take] at this) (by rw [List.length_map, List.length_take, ← HLEN.out]; omega) (cell64_one _) (by unfold maxLen; omega) (by omega) hbu0.size ?_
            intro vu4 u4 hou4 hgu4
            have hbu4 : Below w.heap.size w u4 := hbu0.grown hgu4 hbu0.size (fun q hq => (hou0.lt q hq).1)
            rw [Nat.zero_add, List.nil_append] at hou4
            refine hK.out _ _ (hbu4) (fun _ => ?_)
            clear hK K'
            refine wpAnyH_ready (rs := [6]) (by kernel_rfl) (by simp) (AllReadyH.cons (List.getElem?_toArray.trans rfl) (fun K' hK => ?_) AllReadyH.nil)
            refine wanted_goS rfl ?_
            go_simp
            have hbu6 : Below w.heap.size w (u4.alloc (.cells #[.int .u64 (n : Int)] 27)) := hbu4.alloc hbu4.size _
            have hsx : Sv (u4.alloc (.cells #[.int .u64 (n : Int)] 27)) (u4.heap.size + 1) (some ⟨u4.heap.size, 0, none⟩) [cell64 n] := sv_new u4 _ _
            have hleu6 : u4.heap.size + 1 ≤ (u4.alloc (.cells #[.int .u64 (n : Int)] 27)).heap.size := by simp
            have hwle := hbu4.size
            have hou6 := own_below hou4 ((Below.refl _ u4).alloc (Nat.le_refl _) (.cells #[.int .u64 (n : Int)] 27))
            refine hK.out _ _ (hbu6) (fun _ => ?_)
            clear hK K'
            generalize u4.heap.size = zx at *
            generalize u4.alloc (.cells #[.int .u64 (n : Int)] 27) = u6 at *
            refine wpAnyH_ready (rs := [7]) (by kernel_rfl) (by simp) (AllReadyH.cons (List.getElem?_toArray.trans rfl) (fun K' hK => ?_) AllReadyH.nil)
            refine step_app_sv rfl (.tmp 37) (.tmp 39) 33 rfl w.heap.size 27 i0 _ 8 Try.underlying33 hi0 hz0 hz1 hz2 rfl (vu4) k ((l.take k).map cell64) rfl hou6 _ (some ⟨zx, 0, none⟩) 1 1 ([cell64 n]) rfl hsx rfl (by intro u hu; simp at hu; subst hu; rfl) (by unfold maxLen; omega) (by omega) hbu6.size ?_
            intro vu7 u7 hou7 hgu7
            have hbu7 : Below w.heap.size w u7 := hbu6.grown hgu7 hbu6.size (fun q hq => (hou6.lt q hq).1)
            refine hK.out _ _ (hbu7) (fun _ => ?_)
            clear hK K'
            refine wpAnyH_ready (rs := [11]) (by kernel_rfl) (by simp) (AllReadyH.cons (List.getElem?_toArray.trans rfl) (fun K' hK => ?_) AllReadyH.nil)
            refine step_app_sv rfl (.tmp 40) (.tmp 43) 33 rfl w.heap.size 27 i0 _ 8 Try.underlying33 hi0 hz0 hz1 hz2 rfl (vu7) (k + 1) ((l.take k).map cell64 ++ [cell64 n]) rfl hou7 _ A3 m3 c3 ((l.drop k).map cell64) rfl (by have := (HS.out.cut k m3 c (by rw [List.length_map, ← HLEN.out]; omega)).below hbu7; rw [HA3.out]; rwa [← List.map_drop, ← List.map_take, List.take_of_length_le (by rw [List.length_drop, ← HLEN.out]; omega)] at this) (by rw [List.length_map, List.length_drop, ← HLEN.out]; omega) (cell64_one _) (by unfold maxLen; omega) (by omega) hbu7.size ?_
            intro vu11 u11 hou11 hgu11
            have hbu11 : Below w.heap.size w u11 := hbu7.grown hgu11 hbu7.size (fun q hq => (hou7.lt q hq).1)
            refine hK.out _ _ (hbu11) (fun _ => ?_)
            clear hK K'
            refine wpAnyH_take (i := 12) (v := vu11) (List.getElem?_toArray.trans rfl) (by kernel_rfl) (by kernel_rfl) (by kernel_rfl) (fun _ _ _ h => h) (.inl ⟨rfl, fun w' hS => rfl⟩) hbu11 ?_
            refine act_normS (by simp only [Act.put, List.setIfInBounds_toArray, List.set_cons_zero, List.set_cons_succ]; rfl) ?_
            refine wpAnyH_done (by kernel_rfl) ?_ _

            have HO := Lib.hid hou11
            have HB := Lib.hid hbu11
            clear hou11 hbu11 hgu11 hou7 hbu7 hgu7
            go_wp2
            go_ret
            obtain ⟨A9, c9, rfl, q1, q2⟩ := own_form HO.out
            have hll : (l.take k ++ (n :: l.drop k)).length = k + 1 + m3 := by simp [← HLEN.out]; omega
            refine ⟨_, rfl, ⟨A9, c9, l.take k ++ (n :: l.drop k), by rw [hll]; rfl, by rw [hll]; exact q1, q2, ?_, HPW.out.1, fun x => ?_, by rw [hll]; omega⟩, HB.out⟩
            · have := Sv.of_own HO.out
              simpa using this
            · rw [HPW.out.2, HMEM.out]
          · refine wanted_goS rfl ?_
            go_simp
            have hbu6 : Below w.heap.size w (u0.alloc (.cells #[.int .u64 (n : Int)] 27)) := hbu0.alloc hbu0.size _
            have hsx : Sv (u0.alloc (.cells #[.int .u64 (n : Int)] 27)) (u0.heap.size + 1) (some ⟨u0.heap.size, 0, none⟩) [cell64 n] := sv_new u0 _ _
            have hleu6 : u0.heap.size + 1 ≤ (u0.alloc (.cells #[.int .u64 (n : Int)] 27)).heap.size := by simp
            have hwle := hbu0.size
            have hou6 := own_below hou0 ((Below.refl _ u0).alloc (Nat.le_refl _) (.cells #[.int .u64 (n : Int)] 27))
            have hzx : zu0 < u0.heap.size := (hou0.lt zu0 rfl).2
            refine hK.out _ _ (hbu6) (fun _ => ?_)
            clear hK K'
            generalize u0.heap.size = zx at *
            generalize u0.alloc (.cells #[.int .u64 (n : Int)] 27) = u6 at *
            refine wpAnyH_ready (rs := [4]) (by kernel_rfl) (by simp) (AllReadyH.cons (List.getElem?_toArray.trans rfl) (fun K' hK => ?_) AllReadyH.nil)
            refine step_app_sv rfl (.tmp 33) (.tmp 36) 33 rfl w.heap.size 27 i0 _ 8 Try.underlying33 hi0 hz0 hz1 hz2 rfl (.slice (some ⟨zu0, 0, none⟩) 0 0) 0 ([]) rfl hou6 _ A k c ((l.take k).map cell64) rfl (by have := (HS.out.take k).below hbu6; rwa [← List.map_take] at this) (by rw [List.length_map, List.length_take, ← HLEN.out]; omega) (cell64_one _) (by unfold maxLen; omega) (by omega) hbu6.size ?_
            intro vu4 u4 hou4 hgu4
            have hbu4 : Below w.heap.size w u4 := hbu6.grown hgu4 hbu6.size (fun q hq => (hou6.lt q hq).1)
            rw [Nat.zero_add, List.nil_append] at hou4
            have hsx4 : Sv u4 (zx + 1) (some ⟨zx, 0, none⟩) [cell64 n] := by
              intro hne
              obtain ⟨b9, o9, e9, h9, hc9⟩ := hsx hne
              simp only [Option.some.injEq, Addr.mk.injEq, and_true] at e9
              obtain ⟨rfl, rfl⟩ := e9
              exact ⟨zx, 0, rfl, h9, fun i v hv => (World.cell?_of_block (hgu4.block zx (by omega) (by simp [Value.ownBlock]; omega))).trans (hc9 i v hv)⟩
            clear hsx
            have hsx := hsx4
            refine hK.out _ _ (hbu4) (fun _ => ?_)
            clear hK K'
            refine wpAnyH_ready (rs := [7]) (by kernel_rfl) (by simp) (AllReadyH.cons (List.getElem?_toArray.trans rfl) (fun K' hK => ?_) AllReadyH.nil)
            refine step_app_sv rfl (.tmp 37) (.tmp 39) 33 rfl w.heap.size 27 i0 _ 8 Try.underlying33 hi0 hz0 hz1 hz2 rfl (vu4) k ((l.take k).map cell64) rfl hou4 _ (some ⟨zx, 0, none⟩) 1 1 ([cell64 n]) rfl hsx rfl (by intro u hu; simp at hu; subst hu; rfl) (by unfold maxLen; omega) (by omega) hbu4.size ?_
            intro vu7 u7 hou7 hgu7
            have hbu7 : Below w.heap.size w u7 := hbu4.grown hgu7 hbu4.size (fun q hq => (hou4.lt q hq).1)
            refine hK.out _ _ (hbu7) (fun _ => ?_)
            clear hK K'
            refine wpAnyH_ready (rs := [11]) (by kernel_rfl) (by simp) (AllReadyH.cons (List.getElem?_toArray.trans rfl) (fun K' hK => ?_) AllReadyH.nil)
            refine step_app_sv rfl (.tmp 40) (.tmp 43) 33 rfl w.heap.size 27 i0 _ 8 Try.underlying33 hi0 hz0 hz1 hz2 rfl (vu7) (k + 1) ((l.take k).map cell64 ++ [cell64 n]) rfl hou7 _ A3 m3 c3 ((l.drop k).map cell64) rfl (by have := (HS.out.cut k m3 c (by rw [List.length_map, ← HLEN.out]; omega)).below hbu7; rw [HA3.out]; rwa [← List.map_drop, ← List.map_take, List.take_of_length_le (by rw [List.length_drop, ← HLEN.out]; omega)] at this) (by rw [List.length_map, List.length_drop, ← HLEN.out]; omega) (cell64_one _) (by unfold maxLen; omega) (by omega) hbu7.size ?_
            intro vu11 u11 hou11 hgu11
            have hbu11 : Below w.heap.size w u11 := hbu7.grown hgu11 hbu7.size (fun q hq => (hou7.lt q hq).1)
            refine hK.out _ _ (hbu11) (fun _ => ?_)
            clear hK K'
            refine wpAnyH_take (i := 12) (v := vu11) (List.getElem?_toArray.trans rfl) (by kernel_rfl) (by kernel_rfl) (by kernel_rfl) (fun _ _ _ h => h) (.inl ⟨rfl, fun w' hS => rfl⟩) hbu11 ?_
            refine act_normS (by simp only [Act.put, List.setIfInBounds_toArray, List.set_cons_zero, List.set_cons_succ]; rfl) ?_
            refine wpAnyH_done (by kernel_rfl) ?_ _

            have HO := Lib.hid hou11
            have HB := Lib.hid hbu11
            clear hou11 hbu11 hgu11 hou7 hbu7 hgu7
            go_wp2
            go_ret
            obtain ⟨A9, c9, rfl, q1, q2⟩ := own_form HO.out
            have hll : (l.take k ++ (n :: l.drop k)).length = k + 1 + m3 := by simp [← HLEN.out]; omega
            refine ⟨_, rfl, ⟨A9, c9, l.take k ++ (n :: l.drop k), by rw [hll]; rfl, by rw [hll]; exact q1, q2, ?_, HPW.out.1, fun x => ?_, by rw [hll]; omega⟩, HB.out⟩
            · have := Sv.of_own HO.out
              simpa using this
            · rw [HPW.out.2, HMEM.out]
        · refine wanted_goS rfl ?_
          go_simp
          have hbu6 : Below w.heap.size w (W.alloc (.cells #[.int .u64 (n : Int)] 27)) := hbW.alloc hbW.size _
          have hsx : Sv (W.alloc (.cells #[.int .u64 (n : Int)] 27)) (W.heap.size + 1) (some ⟨W.heap.size, 0, none⟩) [cell64 n] := sv_new W _ _
          have hleu6 : W.heap.size + 1 ≤ (W.alloc (.cells #[.int .u64 (n : Int)] 27)).heap.size := by simp
          have hwle := hbW.size
          refine hK.out _ _ (hbu6) (fun _ => ?_)
          clear hK K'
          generalize W.heap.size = zx at *
          generalize W.alloc (.cells #[.int .u64 (n : Int)] 27) = u6 at *
          refine wpAnyH_ready (rs := [0]) (by kernel_rfl) (by simp) (AllReadyH.cons (List.getElem?_toArray.trans rfl) (fun K' hK => ?_) AllReadyH.nil)
          refine wanted_goS rfl ?_
          go_simp
          have hbu0 : Below w.heap.size w (u6.alloc (.cells #[] 27)) := hbu6.alloc hbu6.size _
          have hou0 : (u6.alloc (.cells #[] 27)).ownsRow w.heap.size 27 1 (.slice (some ⟨u6.heap.size, 0, none⟩) 0 0) 0 [] := ownR_base (own_none u6 27) hbu6.size
          have hsx0 := hsx.keep (w' := u6.alloc (.cells #[] 27)) (Nat.le_refl _) fun p hp => ((Below.refl u6.heap.size u6).alloc (Nat.le_refl _) _).cell (Nat.lt_of_lt_of_le hp (by omega))
          clear hsx
          have hsx := hsx0
          refine hK.out _ _ (hbu0) (fun _ => ?_)
          clear hK K'
          generalize hzu0 : u6.heap.size = zu0 at *
          generalize u6.alloc (.cells #[] 27) = u0 at *
          refine wpAnyH_ready (rs := [4]) (by kernel_rfl) (by simp) (AllReadyH.cons (List.getElem?_toArray.trans rfl) (fun K' hK => ?_) AllReadyH.nil)
          refine step_app_sv rfl (.tmp 33) (.tmp 36) 33 rfl w.heap.size 27 i0 _ 8 Try.underlying33 hi0 hz0 hz1 hz2 rfl (.slice (some ⟨zu0, 0, none⟩) 0 0) 0 ([]) rfl hou0 _ A k c ((l.take k).map cell64) rfl (by have := (HS.out.take k).below hbu0; rwa [← List.map_take] at this) (by rw [List.length_map, List.length_take, ← HLEN.out]; omega) (cell64_one _) (by unfold maxLen; omega) (by omega) hbu0.size ?_
          intro vu4 u4 hou4 hgu4
          have hbu4 : Below w.heap.size w u4 := hbu0.grown hgu4 hbu0.size (fun q hq => (hou0.lt q hq).1)
          rw [Nat.zero_add, List.nil_append] at hou4
          have hsx4 : Sv u4 (zx + 1) (some ⟨zx, 0, none⟩) [cell64 n] := by
            intro hne
            obtain ⟨b9, o9, e9, h9, hc9⟩ := hsx hne
            simp only [Option.some.injEq, Addr.mk.injEq, and_true] at e9
            obtain ⟨rfl, rfl⟩ := e9
            exact ⟨zx, 0, rfl, h9, fun i v hv => (World.cell?_of_block (hgu4.block zx (by have := (hou0.lt zu0 rfl).2; omega) (by simp [Value.ownBlock]; omega))).trans (hc9 i v hv)⟩
          clear hsx
          have hsx := hsx4
          refine hK.out _ _ (hbu4) (fun _ => ?_)
          clear hK K'
          refine wpAnyH_ready (rs := [7]) (by kernel_rfl) (by simp) (AllReadyH.cons (List.getElem?_toArray.trans rfl) (fun K' hK => ?_) AllReadyH.nil)
          refine step_app_sv rfl (.tmp 37) (.tmp 39) 33 rfl w.heap.size 27 i0 _ 8 Try.underlying33 hi0 hz0 hz1 hz2 rfl (vu4) k ((l.take k).map cell64) rfl hou4 _ (some ⟨zx, 0, none⟩) 1 1 ([cell64 n]) rfl hsx rfl (by intro u hu; simp at hu; subst hu; rfl) (by unfold maxLen; omega) (by omega) hbu4.size ?_
          intro vu7 u7 hou7 hgu7
          have hbu7 : Below w.heap.size w u7 := hbu4.grown hgu7 hbu4.size (fun q hq => (hou4.lt q hq).1)
          refine hK.out _ _ (hbu7) (fun _ => ?_)
          clear hK K'
          refine wpAnyH_ready (rs := [11]) (by kernel_rfl) (by simp) (AllReadyH.cons (List.getElem?_toArray.trans rfl) (fun K' hK => ?_) AllReadyH.nil)
          refine step_app_sv rfl (.tmp 40) (.tmp 43) 33 rfl w.heap.size 27 i0 _ 8 Try.underlying33 hi0 hz0 hz1 hz2 rfl (vu7) (k + 1) ((l.take k).map cell64 ++ [cell64 n]) rfl hou7 _ A3 m3 c3 ((l.drop k).map cell64) rfl (by have := (HS.out.cut k m3 c (by rw [List.length_map, ← HLEN.out]; omega)).below hbu7; rw [HA3.out]; rwa [← List.map_drop, ← List.map_take, List.take_of_length_le (by rw [List.length_drop, ← HLEN.out]; omega)] at this) (by rw [List.length_map, List.length_drop, ← HLEN.out]; omega) (cell64_one _) (by unfold maxLen; omega) (by omega) hbu7.size ?_
          intro vu11 u11 hou11 hgu11
          have hbu11 : Below w.heap.size w u11 := hbu7.grown hgu11 hbu7.size (fun q hq => (hou7.lt q hq).1)
          refine hK.out _ _ (hbu11) (fun _ => ?_)
          clear hK K'
          refine wpAnyH_take (i := 12) (v := vu11) (List.getElem?_toArray.trans rfl) (by kernel_rfl) (by kernel_rfl) (by kernel_rfl) (fun _ _ _ h => h) (.inl ⟨rfl, fun w' hS => rfl⟩) hbu11 ?_
          refine act_normS (by simp only [Act.put, List.setIfInBounds_toArray, List.set_cons_zero, List.set_cons_succ]; rfl) ?_
          refine wpAnyH_done (by kernel_rfl) ?_ _

          have HO := Lib.hid hou11
          have HB := Lib.hid hbu11
          clear hou11 hbu11 hgu11 hou7 hbu7 hgu7
          go_wp2
          go_ret
          obtain ⟨A9, c9, rfl, q1, q2⟩ := own_form HO.out
          have hll : (l.take k ++ (n :: l.drop k)).length = k + 1 + m3 := by simp [← HLEN.out]; omega
          refine ⟨_, rfl, ⟨A9, c9, l.take k ++ (n :: l.drop k), by rw [hll]; rfl, by rw [hll]; exact q1, q2, ?_, HPW.out.1, fun x => ?_, by rw [hll]; omega⟩, HB.out⟩
          · have := Sv.of_own HO.out
            simpa using this
          · rw [HPW.out.2, HMEM.out]

end Go.Proofs.Ytkmnhlcjeebejaa
