/-
  gcm.polynomial: plus, timesX, times. Printed by tools/gen_gcpoly.py.
-/
import Derived.Deep.RegionHeld3
import Derived.Test.YtbnnjkjmadnjkaaDoorSk33
import Derived.Test.YtbnnjkjmadnjkaaDoorSk9
namespace Go.Proofs.YtbnnjkjmadnjkaaDoor
open Go.RowKit
set_option linter.unusedVariables false

theorem info_pol : (Tryd.prog.info? 111).map (·.size) = some 2 := by kernel_rfl
theorem pRow_x (v : W128) : (#[.int .u64 (bits .xor .u64 (wq (loG v) / 2) (bits .and .u64 (IntKind.u64.wrap (-bits .and .u64 (wq (hiG v)) 1)) 16212958658533785600)), .int .u64 (bits .or .u64 (IntKind.u64.wrap (wq (loG v) * 9223372036854775808)) (wq (hiG v) / 2))] : Array Value) = pRow (xG v) := by
  unfold pRow pL
  rw [lo_x, hi_x, wq_half, wq_half, wq_one, wq_and, wq_neg, wq_e1, wq_and, wq_xor, wq_shl63, wq_or]
theorem pRow_xor (u v : W128) : (#[.int .u64 (bits .xor .u64 (wq (loG u)) (wq (loG v))), .int .u64 (bits .xor .u64 (wq (hiG u)) (wq (hiG v)))] : Array Value) = pRow (u ^^^ v) := by
  unfold pRow pL
  rw [lo_xor, hi_xor, wq_xor, wq_xor]
theorem pRow_open (v : W128) : Value.agg (pRow v) = .agg #[.int .u64 (wq (loG v)), .int .u64 (wq (hiG v))] := rfl

set_option maxRecDepth 100000 in
set_option maxHeartbeats 400000 in
theorem timesx_any (v : W128) (w : World) :
    Calls Tryd.prog 90 #[.agg (pRow v)] w fun e w' => e = .returned (.agg (pRow (xG v))) ∧ Below w.heap.size w w' := by
  have h1 := wq_nn (loG v)
  have h2 := wq_lt (loG v)
  have h3 := wq_nn (hiG v)
  have h4 := wq_lt (hiG v)
  rw [pRow_open v]
  go_enter Tryd.func90, Tryd.ntmps90
  go_wp2
  rw [pRow_x v]
  refine bodyPost_ret (v := .agg (pRow (xG v))) (results_cell_row Tryd.results90 _ _ (w.heap.size + 1) _ _ (0, 0) _ rfl (made2 w _ _ _ _).2.2 Tryd.underlying111 rfl info_pol) rfl ?_
  exact ⟨rfl, (made2 w _ _ _ _).1⟩

set_option maxRecDepth 100000 in
set_option maxHeartbeats 400000 in
theorem plus_any (u v : W128) (w : World) :
    Calls Tryd.prog 62 #[.agg (pRow u), .agg (pRow v)] w fun e w' => e = .returned (.agg (pRow (u ^^^ v))) ∧ Below w.heap.size w w' := by
  rw [pRow_open u, pRow_open v]
  have hx := pRow_xor u v
  have HX := Deep.mk hx
  clear hx
  go_enter Tryd.func62, Tryd.ntmps62
  go_wp2
  rw [HX.out]
  refine bodyPost_ret (v := .agg (pRow (u ^^^ v))) (results_cell_row Tryd.results62 _ _ (w.heap.size + 1 + 1) _ _ (0, 0) _ rfl (made3 w _ _ _ _ _ _).2.2.2 Tryd.underlying111 rfl info_pol) rfl ?_
  exact ⟨rfl, (made3 w _ _ _ _ _ _).1⟩

/-- The word whose bits are met next. -/
theorem bit_shr (x : W64) (j : Nat) : (x >>> j).getLsbD 0 = x.getLsbD j := by rw [BitVec.getLsbD_ushiftRight, Nat.add_zero]
theorem shr_one (x : W64) (j : Nat) : (x >>> j) >>> 1 = x >>> (j + 1) := (BitVec.shiftRight_add x j 1).symm
/-- What is added: a polynomial, or none. -/
def mkG (q : W128) (b : Bool) : W128 := if b then q else 0#128
/-- All bits of a word, or none, by its lowest bit. -/
def alG (x : W64) : W64 := -(x &&& 1#64)
theorem wq_all (x : W64) : IntKind.u64.wrap (-bits .and .u64 (wq x) 1) = wq (alG x) := by
  unfold alG
  rw [wq_one, wq_and, wq_neg]
theorem lo_al (q : W128) (x : W64) : loG q &&& alG x = loG (mkG q (x.getLsbD 0)) := lo_mask q x
theorem hi_al (q : W128) (x : W64) : hiG q &&& alG x = hiG (mkG q (x.getLsbD 0)) := hi_mask q x
theorem ho_next (p q : W128) (n : Nat) : hoG p q (n + 1) = xG (hoG p q n) ^^^ mkG q (p.getLsbD n) := rfl
/-- The k-th word that is met. -/
def wdG (p : W128) : Nat → W64
  | 0 => hiG p
  | _ => loG p
theorem wd_bit (p : W128) (k j : Nat) (hk : k < 2) (hj : j < 64) : (wdG p k).getLsbD j = p.getLsbD (64 * k + j) := by
  match k, hk with
  | 0, _ => rw [wdG, hi_bit _ _ hj]; congr 1; omega
  | 1, _ => rw [show wdG p 1 = loG p from rfl, lo_bit _ _ hj]
set_option maxRecDepth 100000 in
theorem idx2a (x y : Int) (w : World) : (Instr.index 145 (.agg #[.int .u64 x, .int .u64 y]) (.int .i64 0)).run Tryd.prog w = .ok (.int .u64 x) w := by kernel_rfl
set_option maxRecDepth 100000 in
theorem idx2b (x y : Int) (w : World) : (Instr.index 145 (.agg #[.int .u64 x, .int .u64 y]) (.int .i64 1)).run Tryd.prog w = .ok (.int .u64 y) w := by kernel_rfl
set_option maxRecDepth 100000 in
theorem idx2 (p : W128) (k : Nat) (w : World) (hk : k < 2) : (Instr.index 145 (.agg #[.int .u64 (wq (hiG p)), .int .u64 (wq (loG p))]) (.int .i64 (k : Int))).run Tryd.prog w = .ok (.int .u64 (wq (wdG p k))) w := by
  match k, hk with
  | 0, _ => exact idx2a _ _ w
  | 1, _ => exact idx2b _ _ w
theorem z2 : (#[.int .u64 0, .int .u64 0] : Array Value) = pRow 0#128 := by kernel_rfl
theorem pL_one (v : W128) : (pRow v).all (·.oneCell') = true := by simp [pRow, pL, Value.oneCell']
theorem pL_len (v : W128) : (pL v).length = 2 := rfl

theorem made4 (w : World) (r s q p : Array Value) (T U V X : TypeId) : Below w.heap.size w ((((w.alloc (.cells r T)).alloc (.cells s U)).alloc (.cells q V)).alloc (.cells p X)) ∧ Wh ((((w.alloc (.cells r T)).alloc (.cells s U)).alloc (.cells q V)).alloc (.cells p X)) w.heap.size T r ∧ Wh ((((w.alloc (.cells r T)).alloc (.cells s U)).alloc (.cells q V)).alloc (.cells p X)) (w.heap.size + 1) U s ∧ Wh ((((w.alloc (.cells r T)).alloc (.cells s U)).alloc (.cells q V)).alloc (.cells p X)) (w.heap.size + 1 + 1) V q ∧ Wh ((((w.alloc (.cells r T)).alloc (.cells s U)).alloc (.cells q V)).alloc (.cells p X)) (w.heap.size + 1 + 1 + 1) X p := by
  obtain ⟨h1, h2, h3, h4⟩ := made3 w r s q T U V
  refine ⟨h1.alloc h1.size _, h2.alloc _, h3.alloc _, h4.alloc _, ?_⟩
  have := Wh.new (((w.alloc (.cells r T)).alloc (.cells s U)).alloc (.cells q V)) X p
  rwa [show (((w.alloc (.cells r T)).alloc (.cells s U)).alloc (.cells q V)).heap.size = w.heap.size + 1 + 1 + 1 by simp] at this

set_option maxRecDepth 100000 in
set_option maxHeartbeats 400000 in
theorem polytimes_any (p q : W128) (w : World) :
    Calls Tryd.prog 80 #[.agg (pRow p), .agg (pRow q)] w fun e w' => e = .returned (.agg (pRow (tmG p q))) ∧ Below w.heap.size w w' := by
  rw [pRow_open p, pRow_open q]
  go_enter Tryd.func80, Tryd.ntmps80
  go_wp2
  obtain ⟨hbe, _, h1, h2, h3⟩ := made4 w #[.int .u64 (wq (loG p)), .int .u64 (wq (hiG p))] #[.int .u64 (wq (loG q)), .int .u64 (wq (hiG q))] #[.int .u64 0, .int .u64 0] #[.int .u64 0, .int .u64 0] 111 111 111 111
  generalize (((w.alloc (.cells #[.int .u64 (wq (loG p)), .int .u64 (wq (hiG p))] 111)).alloc (.cells #[.int .u64 (wq (loG q)), .int .u64 (wq (hiG q))] 111)).alloc (.cells #[.int .u64 0, .int .u64 0] 111)).alloc (.cells #[.int .u64 0, .int .u64 0] 111) = W at *
  rw [z2] at h2 h3
  change Wh W _ _ (pRow q) at h1
  obtain ⟨a, ha⟩ : ∃ a, a = w.heap.size := ⟨_, rfl⟩
  rw [← ha] at h1 h2 h3 ⊢
  obtain ⟨b, hb⟩ : ∃ b, b = a + 1 := ⟨_, rfl⟩
  rw [← hb] at h1 h2 h3 ⊢
  obtain ⟨r, hr⟩ : ∃ b', b' = b + 1 := ⟨_, rfl⟩
  rw [← hr] at h2 h3 ⊢
  obtain ⟨n, hn⟩ : ∃ b', b' = r + 1 := ⟨_, rfl⟩
  rw [← hn] at h3 ⊢
  have hbn : b < n := by omega
  have hrn : r < n := by omega
  have har : a ≤ r := by omega
  have HA := Lib.hid ha
  have HBE := Lib.hid hbe
  have H1 := Lib.hid h1
  have H2 := Lib.hid h2
  have H3 := Lib.hid h3
  clear ha hb hr hn hbe h1 h2 h3
  go_loopw [7, 8, 14, 17] (fun _ _ i _ wr => ∃ k : Nat, k ≤ 2 ∧ i = .int .i64 (k : Int) ∧ Hid (Wh wr n 111 (pRow (hoG p q (64 * k)))) ∧ Hid (W.grownBy wr (some n))) (fun _ _ i _ _ => 2 - (intOf i).toNat)
  case atStart => exact ⟨0, by omega, rfl, H3, Lib.hid (World.grownBy.refl _ _)⟩
  case round =>
    obtain ⟨k, hk, rfl, HW, HG⟩ := hrel
    by_cases hlt : k < 2
    · obtain ⟨x, hx⟩ : ∃ x, x = wdG p k := ⟨_, rfl⟩
      have hix := idx2 p k wr hlt
      rw [← hx] at hix
      have HX := Deep.mk hx
      have hkd : decide ((k : Int) < 2) = true := by rw [decide_eq_true_iff]; omega
      clear hx
      obtain ⟨wo, rfl⟩ : ∃ wo : World, wo = wr := ⟨_, rfl⟩
      go_wp2
      go_loopw [7, 8, 17] (fun z _ i wr => ∃ j : Nat, j ≤ 64 ∧ i = .int .i64 (j : Int) ∧ z = .int .u64 (wq (x >>> j)) ∧ Hid (Wh wr n 111 (pRow (hoG p q (64 * k + j)))) ∧ Hid (W.grownBy wr (some n))) (fun _ _ i _ => 64 - (intOf i).toNat)
      case atStart => exact ⟨0, by omega, rfl, by rw [BitVec.ushiftRight_zero], HW, HG⟩
      case round =>
        obtain ⟨j, hj, rfl, rfl, HV, HU⟩ := hrel
        clear HW HG hix hkd
        obtain ⟨u, hu⟩ : ∃ u, u = hoG p q (64 * k + j) := ⟨_, rfl⟩
        rw [← hu] at HV
        obtain ⟨y, hy⟩ : ∃ y, y = x >>> j := ⟨_, rfl⟩
        rw [← hy]
        have hy0 := wq_nn y
        have hy1 := wq_lt y
        by_cases hjt : j < 64
        · have hjd : decide ((j : Int) < 64) = true := by rw [decide_eq_true_iff]; omega
          have HR1 : Deep (u = hoG p q (64 * k + j)) := ⟨hu⟩
          have hm : mkG q (y.getLsbD 0) = mkG q (p.getLsbD (64 * k + j)) := by rw [hy, bit_shr, HX.out, wd_bit p k j hlt hjt]
          have HN : Deep (xG u ^^^ mkG q (y.getLsbD 0) = hoG p q (64 * k + (j + 1))) := ⟨by rw [hm, hu]; rfl⟩
          have HY : Deep (wq y / (2 : Int) = wq (x >>> (j + 1))) := ⟨by rw [wq_half, hy, shr_one]⟩
          clear hu hy hm
          have hgr : Wh wr b 111 (pRow q) := H1.out.grown HU.out (by intro e; have := Option.some.inj e; omega)
          have hq0 : ∀ w', Wh w' b 111 (pRow q) → w'.cell? ⟨b, 0, none⟩ = some (.int .u64 (wq (loG q))) := fun w' h => (h.cell 0).trans (pRow_at0 q)
          have hq1 : ∀ w', Wh w' b 111 (pRow q) → w'.cell? ⟨b, 1, none⟩ = some (.int .u64 (wq (hiG q))) := fun w' h => (h.cell 1).trans (pRow_at1 q)
          have HQ0 := Lib.hid hq0
          have HQ1 := Lib.hid hq1
          clear hq0 hq1
          go_wp2_with fail
          rw [wq_all]
          obtain ⟨al, hal⟩ : ∃ al, al = alG y := ⟨_, rfl⟩
          have HAL : Deep (al = alG y) := ⟨hal⟩
          rw [← hal]
          obtain ⟨m, hm⟩ : ∃ m, m = mkG q (y.getLsbD 0) := ⟨_, rfl⟩
          have HM : Deep ((#[.int .u64 (bits .and .u64 (wq (loG q)) (wq al)), .int .u64 (bits .and .u64 (wq (hiG q)) (wq al))] : Array Value) = pRow m) := ⟨by rw [wq_and, wq_and, hal, lo_al, hi_al, hm]; rfl⟩
          rw [← hm] at HN
          clear hal hm
          have hG : Wh wr.drew b 111 (pRow q) := hgr
          refine wp_region_held_drew (S := fun w' => Wh w' b 111 (pRow q)) (by kernel_rfl) hG (fun _ => ?_)
          refine wpAnyH_take (i := 2) (v := .pointer (some ⟨b, 0, none⟩)) (List.getElem?_toArray.trans rfl) (by kernel_rfl) (by kernel_rfl) (by kernel_rfl) (fun _ _ _ h => h) (.inl ⟨rfl, fun w' hS => by simp [go_sem]⟩) hG ?_
          refine act_normM (by simp only [Act.put, List.setIfInBounds_toArray, List.set_cons_zero, List.set_cons_succ]; rfl) ?_
          refine wpAnyH_take (i := 3) (v := .int .u64 (wq (loG q))) (List.getElem?_toArray.trans rfl) (by kernel_rfl) (by kernel_rfl) (by kernel_rfl) (fun _ _ _ h => h) (.inl ⟨rfl, fun w' hS => by have hc := HQ0.out w' hS; simp [go_sem, hc]⟩) hG ?_
          refine act_normM (by simp only [Act.put, List.setIfInBounds_toArray, List.set_cons_zero, List.set_cons_succ]; rfl) ?_
          refine wpAnyH_take (i := 4) (v := .int .u64 (wq al)) (List.getElem?_toArray.trans rfl) (by kernel_rfl) (by kernel_rfl) (by kernel_rfl) (fun _ _ _ h => h) (.inl ⟨rfl, fun w' hS => rfl⟩) hG ?_
          refine act_normM (by simp only [Act.put, List.setIfInBounds_toArray, List.set_cons_zero, List.set_cons_succ]; rfl) ?_
          refine wpAnyH_take (i := 5) (v := .int .u64 (bits .and .u64 (wq (loG q)) (wq al))) (List.getElem?_toArray.trans rfl) (by kernel_rfl) (by kernel_rfl) (by kernel_rfl) (fun _ _ _ h => h) (.inl ⟨rfl, fun w' hS => by simp [go_sem]⟩) hG ?_
          refine act_normM (by simp only [Act.put, List.setIfInBounds_toArray, List.set_cons_zero, List.set_cons_succ]; rfl) ?_
          refine wpAnyH_take (i := 6) (v := .pointer (some ⟨b, 1, none⟩)) (List.getElem?_toArray.trans rfl) (by kernel_rfl) (by kernel_rfl) (by kernel_rfl) (fun _ _ _ h => h) (.inl ⟨rfl, fun w' hS => by simp [go_sem]⟩) hG ?_
          refine act_normM (by simp only [Act.put, List.setIfInBounds_toArray, List.set_cons_zero, List.set_cons_succ]; rfl) ?_
          refine wpAnyH_take (i := 7) (v := .int .u64 (wq (hiG q))) (List.getElem?_toArray.trans rfl) (by kernel_rfl) (by kernel_rfl) (by kernel_rfl) (fun _ _ _ h => h) (.inl ⟨rfl, fun w' hS => by have hc := HQ1.out w' hS; simp [go_sem, hc]⟩) hG ?_
          refine act_normM (by simp only [Act.put, List.setIfInBounds_toArray, List.set_cons_zero, List.set_cons_succ]; rfl) ?_
          refine wpAnyH_take (i := 8) (v := .int .u64 (wq al)) (List.getElem?_toArray.trans rfl) (by kernel_rfl) (by kernel_rfl) (by kernel_rfl) (fun _ _ _ h => h) (.inl ⟨rfl, fun w' hS => rfl⟩) hG ?_
          refine act_normM (by simp only [Act.put, List.setIfInBounds_toArray, List.set_cons_zero, List.set_cons_succ]; rfl) ?_
          refine wpAnyH_take (i := 9) (v := .int .u64 (bits .and .u64 (wq (hiG q)) (wq al))) (List.getElem?_toArray.trans rfl) (by kernel_rfl) (by kernel_rfl) (by kernel_rfl) (fun _ _ _ h => h) (.inl ⟨rfl, fun w' hS => by simp [go_sem]⟩) hG ?_
          refine act_normM (by simp only [Act.put, List.setIfInBounds_toArray, List.set_cons_zero, List.set_cons_succ]; rfl) ?_
          refine wpAnyH_take (i := 10) (v := .agg (pRow m)) (List.getElem?_toArray.trans rfl) (by kernel_rfl) (by kernel_rfl) (by kernel_rfl) (fun _ _ _ h => h) (.inl ⟨rfl, fun w' hS => by rw [← HM.out]; simp [go_sem]⟩) hG ?_
          refine act_normM (by simp only [Act.put, List.setIfInBounds_toArray, List.set_cons_zero, List.set_cons_succ]; rfl) ?_
          refine wpAnyH_ready (rs := [0]) (by kernel_rfl) (by simp) (AllReadyH.cons (List.getElem?_toArray.trans rfl) (fun K' hK => ?_) AllReadyH.nil)
          refine wanted_goM rfl ?_
          refine wp_load_mid 111 (.tmp 5) rfl n 0 rfl (pL u) _ (Wh.whole HV.out) Tryd.underlying111 rfl info_pol ?_
          refine hK.out _ _ hG (fun _ => ?_)
          clear hK K'
          refine wpAnyH_ready (rs := [1]) (by kernel_rfl) (by simp) (AllReadyH.cons (List.getElem?_toArray.trans rfl) (fun K' hK => ?_) AllReadyH.nil)
          refine wanted_goM rfl ?_
          go_simp
          refine (timesx_any u wr.drew).mono ?_
          rintro e w3 ⟨rfl, hb3⟩
          have HB3 : Hid (Below wr.heap.size wr w3) := Lib.hid ((Below.refl _ _).drew.trans hb3)
          have hG3 : Wh w3 b 111 (pRow q) := hgr.below HB3.out hgr.lt
          clear hb3
          refine hK.out _ _ hG3 (fun _ => ?_)
          clear hK K'
          refine wpAnyH_ready (rs := [11]) (by kernel_rfl) (by simp) (AllReadyH.cons (List.getElem?_toArray.trans rfl) (fun K' hK => ?_) AllReadyH.nil)
          refine wanted_goM rfl ?_
          go_simp
          refine (plus_any (xG u) m w3).mono ?_
          rintro e w5 ⟨rfl, hb5⟩
          have HB5 : Hid (Below wr.heap.size wr w5) := Lib.hid (HB3.out.trans (hb5.mono HB3.out.size))
          have hG5 : Wh w5 b 111 (pRow q) := hgr.below HB5.out hgr.lt
          have hN5 : Wh w5 n 111 (pRow u) := HV.out.below HB5.out HV.out.lt
          clear hb5
          refine hK.out _ _ hG5 (fun _ => ?_)
          clear hK K'
          obtain ⟨hs1, hs2⟩ := Wh.allL (ds := pL (xG u ^^^ m)) hN5 rfl
          have hG6 : Wh (w5.setCells n 0 (pL (xG u ^^^ m))) b 111 (pRow q) := hG5.grown hs2 (by intro e; have := Option.some.inj e; omega)
          refine wpAnyH_ready (rs := [12]) (by kernel_rfl) (by simp) (AllReadyH.cons (List.getElem?_toArray.trans rfl) (fun K' hK => ?_) AllReadyH.nil)
          refine wanted_goM rfl ?_
          refine wp_store_mid 111 (.tmp 5) (.tmp 33) rfl n 0 (pRow (xG u ^^^ m)) rfl rfl (hN5.thereL 0 2 (by simp [pL])) info_pol (pL_one _) ?_
          refine hK.out _ _ hG6 (fun _ => ?_)
          clear hK K'
          refine wpAnyH_done (by kernel_rfl) ?_ _
          have HW6 : Hid (Wh (w5.setCells n 0 (pL (xG u ^^^ m))) n 111 (pRow (hoG p q (64 * k + (j + 1))))) := by rw [HN.out] at hs1 ⊢; exact Lib.hid hs1
          have HG6 := Lib.hid (grown_trans (grown_trans HU.out (grown_below (row := some n) HB5.out)) hs2)
          clear hG hG3 hG5 hG6 hN5 hs1 hs2 hgr
          simp only [Act.put]
          change Exit.then _ _ _ _ (w5.setCells n 0 (pL (xG u ^^^ m)))
          generalize w5.setCells n 0 (pL (xG u ^^^ m)) = w6 at *
          go_wp2
          exact ⟨⟨j + 1, by omega, by go_num, by rw [HY.out], HW6, HG6⟩, by simp [intOf]; omega⟩
        · have hjd : decide ((j : Int) < 64) = false := by rw [decide_eq_false_iff_not]; omega
          have HW6 : Hid (Wh wr n 111 (pRow (hoG p q (64 * (k + 1))))) := by
            have e : 64 * (k + 1) = 64 * k + j := by omega
            rw [e, ← hu]
            exact HV
          clear hu hy hjt
          go_wp2
          exact ⟨⟨k + 1, by omega, by go_num, HW6, HU⟩, by simp [intOf]; omega⟩
    · have hkd : decide ((k : Int) < 2) = false := by rw [decide_eq_false_iff_not]; omega
      have hk2 : k = 2 := by omega
      obtain ⟨z, hz⟩ : ∃ z, z = tmG p q := ⟨_, rfl⟩
      have HWN : Hid (Wh wr n 111 (pRow z)) := by
        have h := HW.out
        rw [hk2] at h
        have e : hoG p q (64 * 2) = z := by rw [hz]; exact ho_tm p q
        rw [e] at h
        exact Lib.hid h
      have HRR : Hid (Wh wr r 111 (pRow 0#128)) := Lib.hid (H2.out.grown HG.out (by intro e; have := Option.some.inj e; omega))
      have HBW := Lib.hid (below_grownA HBE.out HG.out (by rw [← HA.out]; omega) HBE.out.size)
      have hwr : w.heap.size ≤ r := by rw [← HA.out]; exact har
      have HZ := Deep.mk hz
      clear HW HG hlt hk hk2 hz
      go_wp2_with (first
        | (refine wpList_load_row rfl 111 (.tmp 5) rfl n rfl _ (pRow z) _ _ HWN.out Tryd.underlying111 rfl info_pol ?_)
        | (refine wpList_store_row rfl 111 (.tmp 4) (.tmp 38) rfl r (pRow z) rfl rfl _ _ HRR.out info_pol rfl (pL_one _) ?_))
      refine bodyPost_ret (v := .agg (pRow z)) (results_cell_row Tryd.results80 _ _ r _ _ (0, 0) _ rfl (setRow_heap wr r _ _ _ _ HRR.out) Tryd.underlying111 rfl info_pol) rfl ?_
      exact ⟨by rw [HZ.out], below_setRow HBW.out hwr _⟩
end Go.Proofs.YtbnnjkjmadnjkaaDoor
