/-
  (key.mask).first, (key.mask).turn. Printed by tools/gen_kpfirst.py.
  Protection taken off again, as lists of bytes. No program is walked here.
-/
import Derived.Test.YtbnnjkjmadnjkaaDoorSk27
namespace Go.Proofs.YtbnnjkjmadnjkaaDoor
section
open Go.RowKit
set_option linter.unusedVariables false

def bitsU (sp : Nat) : UInt8 := if sp = 2 then 31 else 15
def firstK (m : List UInt8) (x : UInt8) (sp : Nat) : UInt8 := x ^^^ (m.getD 0 0 &&& bitsU sp)
theorem b_and (x y : UInt8) : bits .and .u8 (x.toNat : Int) (y.toNat : Int) = ((x &&& y).toNat : Int) := by
  rw [u8_and_nat _ _ x.toNat_lt y.toNat_lt, UInt8.toNat_and]
/-- A part of a list turned by a mask's bytes from the second one on. -/
def jnP (m l : List UInt8) (a : Nat) : Nat → List UInt8
  | 0 => l
  | i + 1 => (jnP m l a i).set (a + i) ((jnP m l a i).getD (a + i) 0 ^^^ m.getD (i + 1) 0)
theorem jnP_len (m l : List UInt8) (a i : Nat) : (jnP m l a i).length = l.length := by
  induction i with
  | zero => rfl
  | succ i ih => rw [jnP, List.length_set, ih]

set_option maxRecDepth 100000 in
set_option maxHeartbeats 400000 in
theorem mfirst_any (m : List UInt8) (x : UInt8) (sp : Nat) (w : World) (hm : m.length = 16) :
    Calls Tryd.prog 19 #[.agg (aRow m), .int .u8 (x.toNat : Int), .int .u8 (sp : Int)] w fun e w' => e = .returned (.int .u8 ((firstK m x sp).toNat : Int)) ∧ Below w.heap.size w w' := by
  have HM := Deep.mk hm
  have HSZ : (aRow m).size = 16 := by rw [aRow_size, hm]
  have hb0 : Below w.heap.size w (w.alloc (.cells (aRow m) 55)) := (Below.refl _ _).alloc (Nat.le_refl _) _
  have h2 := Wh.new w 55 (aRow m)
  have hbi : ∀ w' : World, Calls Tryd.prog 43 #[.int .u8 (sp : Int)] w' fun e w2 => e = .returned (.int .u8 ((bitsU sp).toNat : Int)) ∧ w2 = w' := fun w' => by
    by_cases h : sp = 2
    · have := bits_any sp w' true (by rw [h]; rfl)
      rwa [show (if true = true then (31 : Int) else 15) = ((bitsU sp).toNat : Int) by rw [bitsU, if_pos h]; rfl] at this
    · have := bits_any sp w' false (by simp only [beq_eq_false_iff_ne, ne_eq]; omega)
      rwa [show (if false = true then (31 : Int) else 15) = ((bitsU sp).toNat : Int) by rw [bitsU, if_neg h]; rfl] at this
  have HBI := Lib.hid hbi
  have hfk : firstK m x sp = x ^^^ (m.getD 0 0 &&& bitsU sp) := rfl
  have hc0 : (w.alloc (.cells (aRow m) 55)).cell? ⟨w.heap.size, 0, none⟩ = some (.int .u8 ((m.getD 0 0).toNat : Int)) := (h2.cell 0).trans (aRow_at (by omega))
  generalize bitsU sp = y at *
  generalize m.getD 0 0 = u at *
  obtain ⟨v, hv⟩ : ∃ v, v = u &&& y := ⟨_, rfl⟩
  obtain ⟨z, hz⟩ : ∃ z, z = x ^^^ v := ⟨_, rfl⟩
  rw [← hv, ← hz] at hfk
  have HV := Deep.mk hv
  have HZ := Deep.mk hz
  have HFK := Deep.mk hfk
  have HC0 := Lib.hid hc0
  have HB0 := Lib.hid hb0
  clear hm hbi hfk hc0 hv hz h2 hb0
  go_enter Tryd.func19, Tryd.ntmps19
  go_upto_region 1 with (fail)
  generalize w.alloc (.cells (aRow m) 55) = W at *
  obtain ⟨b, hb⟩ : ∃ b, b = w.heap.size := ⟨_, rfl⟩
  rw [← hb] at HC0
  rw [← hb]
  have HBq := Deep.mk hb
  clear hb
  have hc : W.drew.cell? ⟨b, 0, none⟩ = some (.int .u8 (u.toNat : Int)) := HC0.out
  refine wp_region_held_drew (S := fun w' => w'.cell? ⟨b, 0, none⟩ = some (.int .u8 (u.toNat : Int))) (by kernel_rfl) hc (fun _ => ?_)
  have hbw : Below w.heap.size w W.drew := HB0.out.drew
  generalize W.drew = w0 at *
  refine wpAnyH_take (i := 0) (v := .int .u8 (x.toNat : Int)) (List.getElem?_toArray.trans rfl) (by kernel_rfl) (by kernel_rfl) (by kernel_rfl) (fun _ _ _ h => h) (.inl ⟨rfl, fun w' hS => rfl⟩) hc ?_
  refine act_normS (by simp only [Act.put, List.setIfInBounds_toArray, List.set_cons_zero, List.set_cons_succ]; rfl) ?_
  refine wpAnyH_take (i := 1) (v := .pointer (some ⟨b, 0, none⟩)) (List.getElem?_toArray.trans rfl) (by kernel_rfl) (by kernel_rfl) (by kernel_rfl) (fun _ _ _ h => h) (.inl ⟨rfl, fun w' hS => by simp [go_sem]⟩) hc ?_
  refine act_normS (by simp only [Act.put, List.setIfInBounds_toArray, List.set_cons_zero, List.set_cons_succ]; rfl) ?_
  refine wpAnyH_take (i := 2) (v := .int .u8 (u.toNat : Int)) (List.getElem?_toArray.trans rfl) (by kernel_rfl) (by kernel_rfl) (by kernel_rfl) (fun _ _ _ h => h) (.inl ⟨rfl, fun w' hS => by simp [go_sem, hS]⟩) hc ?_
  refine act_normS (by simp only [Act.put, List.setIfInBounds_toArray, List.set_cons_zero, List.set_cons_succ]; rfl) ?_
  refine wpAnyH_take (i := 3) (v := .int .u8 (sp : Int)) (List.getElem?_toArray.trans rfl) (by kernel_rfl) (by kernel_rfl) (by kernel_rfl) (fun _ _ _ h => h) (.inl ⟨rfl, fun w' hS => rfl⟩) hc ?_
  refine act_normS (by simp only [Act.put, List.setIfInBounds_toArray, List.set_cons_zero, List.set_cons_succ]; rfl) ?_
  refine wpAnyH_ready (rs := [4]) (by kernel_rfl) (by simp) (AllReadyH.cons (List.getElem?_toArray.trans rfl) (fun K' hK => ?_) AllReadyH.nil)
  refine wanted_goS rfl ?_
  go_simp
  refine (HBI.out w0).mono ?_
  rintro e w1 ⟨rfl, rfl⟩
  refine hK.out _ _ hc (fun _ => ?_)
  clear hK K'
  refine wpAnyH_take (i := 5) (v := .int .u8 (v.toNat : Int)) (List.getElem?_toArray.trans rfl) (by kernel_rfl) (by kernel_rfl) (by kernel_rfl) (fun _ _ _ h => h) (.inl ⟨rfl, fun w' hS => by rw [HV.out, ← b_and]; simp [go_sem]⟩) hc ?_
  refine act_normS (by simp only [Act.put, List.setIfInBounds_toArray, List.set_cons_zero, List.set_cons_succ]; rfl) ?_
  refine wpAnyH_take (i := 6) (v := .int .u8 (z.toNat : Int)) (List.getElem?_toArray.trans rfl) (by kernel_rfl) (by kernel_rfl) (by kernel_rfl) (fun _ _ _ h => h) (.inl ⟨rfl, fun w' hS => by rw [HZ.out, ← b_xor]; simp [go_sem]⟩) hc ?_
  refine act_normS (by simp only [Act.put, List.setIfInBounds_toArray, List.set_cons_zero, List.set_cons_succ]; rfl) ?_
  refine wpAnyH_take (i := 7) (v := .int .u8 (z.toNat : Int)) (List.getElem?_toArray.trans rfl) (by kernel_rfl) (by kernel_rfl) (by kernel_rfl) (fun _ _ _ h => h) (.inl ⟨rfl, fun w' hS => rfl⟩) hc ?_
  refine act_normS (by simp only [Act.put, List.setIfInBounds_toArray, List.set_cons_zero, List.set_cons_succ]; rfl) ?_
  refine wpAnyH_done (by kernel_rfl) ?_ _
  go_wp2_with fail
  go_ret
  exact ⟨by rw [HFK.out]; rfl, hbw⟩

set_option maxRecDepth 100000 in
set_option maxHeartbeats 800000 in
theorem mturn_any (m L : List UInt8) (g a n c cq : Nat) (w : World) (hm : m.length = 16) (hn : n ≤ 8) (ha : a + n ≤ L.length) (hL : L.length ≤ 100000000) (hg : Pq w g cq 5 L) :
    Calls Tryd.prog 20 #[.agg (aRow m), .slice (some ⟨g, a, none⟩) n c] w fun e w' => e = .returned (.tuple #[]) ∧ Pq w' g cq 5 (jnP m L a n) ∧ w.grownBy w' (some g) := by
  have HM := Deep.mk hm
  have HSZ : (aRow m).size = 16 := by rw [aRow_size, hm]
  have hg0 : w.grownBy (w.alloc (.cells (aRow m) 55)) (some g) := grown_alloc (World.grownBy.refl _ _) _
  have h2 := Wh.new w 55 (aRow m)
  have hp := hg.since ((Below.refl w.heap.size w).alloc (Nat.le_refl _) (.cells (aRow m) 55))
  have hgb := hg.pb.lt
  obtain ⟨b, hb⟩ : ∃ b, b = w.heap.size := ⟨_, rfl⟩
  rw [← hb] at h2 hgb
  have H2 := Lib.hid h2
  have HP : Hid (Pq (w.alloc (.cells (aRow m) 55)) g cq 5 (jnP m L a 0)) := Lib.hid hp
  have HG := Lib.hid hg0
  have HA := Lib.hid ha
  have HLL := Lib.hid hL
  clear hm hg hg0 h2 hp hL
  go_enter Tryd.func20, Tryd.ntmps20
  go_upto_region 1 with (fail)
  rw [← hb]
  have hne : ¬ g = b := by omega
  have hbW : b < (w.alloc (.cells (aRow m) 55)).heap.size := H2.out.lt
  generalize w.alloc (.cells (aRow m) 55) = W at *
  clear hb ha
  go_wp2_with fail
  go_loopw [4, 7] (fun _ i wr => ∃ k : Nat, k ≤ n ∧ i = .int .i64 (k : Int) ∧ Hid (Pq wr g cq 5 (jnP m L a k)) ∧ Hid (W.grownBy wr (some g))) (fun _ i _ => n - (intOf i).toNat)
  case atStart => exact ⟨0, by omega, rfl, HP, Lib.hid (World.grownBy.refl _ _)⟩
  case round =>
    obtain ⟨k, hk, rfl, HW, HGW⟩ := hrel
    clear HP
    by_cases hlt : k < n
    · have hd : decide ((k : Int) < (n : Int)) = true := decide_eq_true (by omega)
      have hak : a + k < L.length := by have := HA.out; omega
      have hakb : a + k ≤ 100000000 := by have := HLL.out; omega
      have hcu := HW.out.pb.cell (j := a + k) (by rw [jnP_len]; exact hak)
      have hfu := HW.out.pb.frozen (a + k)
      have hcq := (World.cell?_of_block (HGW.out.block b hbW (by intro e; exact hne (Option.some.inj e).symm))).trans ((H2.out.cell (k + 1)).trans (aRow_at (by have := HM.out; omega)))
      have hnx : (jnP m L a k).set (a + k) ((jnP m L a k).getD (a + k) 0 ^^^ m.getD (k + 1) 0) = jnP m L a (k + 1) := rfl
      generalize jnP m L a k = u at *
      generalize u.getD (a + k) 0 = x at *
      generalize m.getD (k + 1) 0 = y at *
      obtain ⟨z, hz⟩ : ∃ z, z = x ^^^ y := ⟨_, rfl⟩
      rw [← hz] at hnx
      have HZZ := Deep.mk hz
      have HNX := Deep.mk hnx
      have hput := (HW.out.since (Below.refl _ _).drew).put (a + k) z
      have hgs := grown_trans (grown_below (row := some g) ((Below.refl _ wr).drew)) (grown_set wr.drew g (a + k) (.int .u8 (z.toNat : Int)))
      have HPU : Hid (Pq (wr.drew.setCell ⟨g, a + k, none⟩ (.int .u8 (z.toNat : Int))) g cq 5 (u.set (a + k) z)) := Lib.hid hput
      have HGS := Lib.hid hgs
      have HCU : Hid (wr.drew.cell? ⟨g, a + k, none⟩ = some (.int .u8 (x.toNat : Int))) := Lib.hid hcu
      have HFU : Hid (wr.drew.frozen? ⟨g, a + k, none⟩ = false) := Lib.hid hfu
      have HCQ : Hid (wr.drew.cell? ⟨b, k + 1, none⟩ = some (.int .u8 (y.toNat : Int))) := Lib.hid hcq
      have hki : (k : Int) < 16 := by omega
      have hkn : (k : Int) < (n : Int) := by omega
      have hk0 : (0 : Int) ≤ (k : Int) := by omega
      have hwp : IntKind.i64.wrap (1 + (k : Int)) = ((k + 1 : Nat) : Int) := by rw [IntWalk.i64_in _ (by omega)]; omega
      have hk1 : ¬ ((16 : Int) ≤ (k : Int) + 1) := by omega
      have hk2 : (0 : Int) ≤ (k : Int) + 1 := by omega
      have HWP := Lib.hid hwp
      clear hcu hfu hcq hnx hz hput hgs hwp
      go_wp2_with fail
      have hcd := HCU.out
      have hfd := HFU.out
      have hcqd := HCQ.out
      have hwp := HWP.out
      refine wp_region_held_drew (S := fun _ => True) (by kernel_rfl) trivial (fun _ => ?_)
      refine wpAnyH_take (i := 0) (v := .slice (some ⟨g, a, none⟩) n c) (List.getElem?_toArray.trans rfl) (by kernel_rfl) (by kernel_rfl) (by kernel_rfl) (fun _ _ _ h => h) (.inl ⟨rfl, fun w' hS => rfl⟩) trivial ?_
      refine act_normS (by simp only [Act.put, List.setIfInBounds_toArray, List.set_cons_zero, List.set_cons_succ]; rfl) ?_
      refine wpAnyH_take (i := 1) (v := .int .i64 (k : Int)) (List.getElem?_toArray.trans rfl) (by kernel_rfl) (by kernel_rfl) (by kernel_rfl) (fun _ _ _ h => h) (.inl ⟨rfl, fun w' hS => rfl⟩) trivial ?_
      refine act_normS (by simp only [Act.put, List.setIfInBounds_toArray, List.set_cons_zero, List.set_cons_succ]; rfl) ?_
      refine wpAnyH_take (i := 2) (v := .pointer (some ⟨g, a + k, none⟩)) (List.getElem?_toArray.trans rfl) (by kernel_rfl) (by kernel_rfl) (by kernel_rfl) (fun _ _ _ h => h) (.inl ⟨rfl, fun w' hS => by simp [go_sem, hkn, hk0]⟩) trivial ?_
      refine act_normS (by simp only [Act.put, List.setIfInBounds_toArray, List.set_cons_zero, List.set_cons_succ]; rfl) ?_
      refine wpAnyH_take (i := 4) (v := .int .i64 (k : Int)) (List.getElem?_toArray.trans rfl) (by kernel_rfl) (by kernel_rfl) (by kernel_rfl) (fun _ _ _ h => h) (.inl ⟨rfl, fun w' hS => rfl⟩) trivial ?_
      refine act_normS (by simp only [Act.put, List.setIfInBounds_toArray, List.set_cons_zero, List.set_cons_succ]; rfl) ?_
      refine wpAnyH_take (i := 5) (v := .int .i64 ((k + 1 : Nat) : Int)) (List.getElem?_toArray.trans rfl) (by kernel_rfl) (by kernel_rfl) (by kernel_rfl) (fun _ _ _ h => h) (.inl ⟨rfl, fun w' hS => by simp [go_sem, hwp]⟩) trivial ?_
      refine act_normS (by simp only [Act.put, List.setIfInBounds_toArray, List.set_cons_zero, List.set_cons_succ]; rfl) ?_
      refine wpAnyH_take (i := 6) (v := .pointer (some ⟨b, k + 1, none⟩)) (List.getElem?_toArray.trans rfl) (by kernel_rfl) (by kernel_rfl) (by kernel_rfl) (fun _ _ _ h => h) (.inl ⟨rfl, fun w' hS => by simp [go_sem, hk1, hk2]⟩) trivial ?_
      refine act_normS (by simp only [Act.put, List.setIfInBounds_toArray, List.set_cons_zero, List.set_cons_succ]; rfl) ?_
      refine wpAnyH_ready (rs := [3, 7]) (by kernel_rfl) (by simp) (AllReadyH.cons (List.getElem?_toArray.trans rfl) (fun K' hK => ?_) (AllReadyH.cons (List.getElem?_toArray.trans rfl) (fun K' hK => ?_) AllReadyH.nil))
      · refine wanted_goS rfl ?_
        go_simp
        refine hK.out _ _ trivial (fun _ => ?_)
        clear hK K'
        refine wpAnyH_ready (rs := [7]) (by kernel_rfl) (by simp) (AllReadyH.cons (List.getElem?_toArray.trans rfl) (fun K' hK => ?_) AllReadyH.nil)
        refine wanted_goS rfl ?_
        go_simp
        refine hK.out _ _ trivial (fun _ => ?_)
        clear hK K'
        refine wpAnyH_take (i := 8) (v := .int .u8 (z.toNat : Int)) (List.getElem?_toArray.trans rfl) (by kernel_rfl) (by kernel_rfl) (by kernel_rfl) (fun _ _ _ h => h) (.inl ⟨rfl, fun w' hS => by rw [HZZ.out, ← b_xor]; simp [go_sem]⟩) trivial ?_
        refine act_normS (by simp only [Act.put, List.setIfInBounds_toArray, List.set_cons_zero, List.set_cons_succ]; rfl) ?_
        refine wpAnyH_take (i := 9) (v := .pointer (some ⟨g, a + k, none⟩)) (List.getElem?_toArray.trans rfl) (by kernel_rfl) (by kernel_rfl) (by kernel_rfl) (fun _ _ _ h => h) (.inl ⟨rfl, fun w' hS => by simp [go_sem, hkn, hk0]⟩) trivial ?_
        refine act_normS (by simp only [Act.put, List.setIfInBounds_toArray, List.set_cons_zero, List.set_cons_succ]; rfl) ?_
        refine wpAnyH_ready (rs := [10]) (by kernel_rfl) (by simp) (AllReadyH.cons (List.getElem?_toArray.trans rfl) (fun K' hK => ?_) AllReadyH.nil)
        refine wanted_goS rfl ?_
        go_simp
        refine hK.out _ _ trivial (fun _ => ?_)
        clear hK K'
        refine wpAnyH_done (by kernel_rfl) ?_ _
        clear hcd hfd hcqd hki
        change Exit.inBlock 1 _ _ _ (wr.drew.setCell ⟨g, a + k, none⟩ (.int .u8 (z.toNat : Int)))
        generalize wr.drew.setCell ⟨g, a + k, none⟩ (.int .u8 (z.toNat : Int)) = w5 at *
        go_wp2
        refine ⟨⟨k + 1, by omega, by go_num, ?_, Lib.hid (grown_trans HGW.out HGS.out)⟩, by simp [intOf]; omega⟩
        rw [← HNX.out]
        exact HPU
      · refine wanted_goS rfl ?_
        go_simp
        refine hK.out _ _ trivial (fun _ => ?_)
        clear hK K'
        refine wpAnyH_ready (rs := [3]) (by kernel_rfl) (by simp) (AllReadyH.cons (List.getElem?_toArray.trans rfl) (fun K' hK => ?_) AllReadyH.nil)
        refine wanted_goS rfl ?_
        go_simp
        refine hK.out _ _ trivial (fun _ => ?_)
        clear hK K'
        refine wpAnyH_take (i := 8) (v := .int .u8 (z.toNat : Int)) (List.getElem?_toArray.trans rfl) (by kernel_rfl) (by kernel_rfl) (by kernel_rfl) (fun _ _ _ h => h) (.inl ⟨rfl, fun w' hS => by rw [HZZ.out, ← b_xor]; simp [go_sem]⟩) trivial ?_
        refine act_normS (by simp only [Act.put, List.setIfInBounds_toArray, List.set_cons_zero, List.set_cons_succ]; rfl) ?_
        refine wpAnyH_take (i := 9) (v := .pointer (some ⟨g, a + k, none⟩)) (List.getElem?_toArray.trans rfl) (by kernel_rfl) (by kernel_rfl) (by kernel_rfl) (fun _ _ _ h => h) (.inl ⟨rfl, fun w' hS => by simp [go_sem, hkn, hk0]⟩) trivial ?_
        refine act_normS (by simp only [Act.put, List.setIfInBounds_toArray, List.set_cons_zero, List.set_cons_succ]; rfl) ?_
        refine wpAnyH_ready (rs := [10]) (by kernel_rfl) (by simp) (AllReadyH.cons (List.getElem?_toArray.trans rfl) (fun K' hK => ?_) AllReadyH.nil)
        refine wanted_goS rfl ?_
        go_simp
        refine hK.out _ _ trivial (fun _ => ?_)
        clear hK K'
        refine wpAnyH_done (by kernel_rfl) ?_ _
        clear hcd hfd hcqd hki
        change Exit.inBlock 1 _ _ _ (wr.drew.setCell ⟨g, a + k, none⟩ (.int .u8 (z.toNat : Int)))
        generalize wr.drew.setCell ⟨g, a + k, none⟩ (.int .u8 (z.toNat : Int)) = w5 at *
        go_wp2
        refine ⟨⟨k + 1, by omega, by go_num, ?_, Lib.hid (grown_trans HGW.out HGS.out)⟩, by simp [intOf]; omega⟩
        rw [← HNX.out]
        exact HPU
    · have hkd : decide ((k : Int) < (n : Int)) = false := by rw [decide_eq_false_iff_not]; omega
      obtain rfl : n = k := by omega
      have HGF := Lib.hid (grown_trans HG.out HGW.out)
      clear HGW HG hlt hk
      go_wp2
      go_end0
      exact ⟨rfl, HW.out, HGF.out⟩
end

section
set_option linter.unusedVariables false

theorem first_twice (m : List UInt8) (x : UInt8) (sp : Nat) : firstK m (firstK m x sp) sp = x := by
  unfold firstK
  generalize m.getD 0 0 &&& bitsU sp = y
  rw [UInt8.xor_assoc, UInt8.xor_self, UInt8.xor_zero]
theorem xor_twice8 (x y : UInt8) : (x ^^^ y) ^^^ y = x := by rw [UInt8.xor_assoc, UInt8.xor_self, UInt8.xor_zero]
/-- What is turned, byte by byte. -/
theorem jnP_at (m l : List UInt8) (a i j : Nat) : (jnP m l a i)[j]? = if a ≤ j ∧ j < a + i then l[j]?.map (· ^^^ m.getD (j - a + 1) 0) else l[j]? := by
  induction i with
  | zero => rw [jnP, if_neg (by omega)]
  | succ i ih =>
    rw [jnP, List.getElem?_set]
    by_cases h : a + i = j
    · have hi : (jnP m l a i)[j]? = l[j]? := by rw [ih, if_neg (by omega)]
      have hr : a ≤ j ∧ j < a + (i + 1) := by omega
      rw [if_pos h, jnP_len, if_pos hr]
      by_cases hl : j < l.length
      · have hl2 : a + i < l.length := by omega
        rw [if_pos hl2, List.getD_eq_getElem?_getD, h, hi, List.getElem?_eq_getElem hl, show i + 1 = j - a + 1 by omega]
        rfl
      · have hl2 : ¬ a + i < l.length := by omega
        rw [if_neg hl2, List.getElem?_eq_none (by omega)]
        rfl
    · rw [if_neg h, ih]
      by_cases h2 : a ≤ j ∧ j < a + i
      · rw [if_pos h2, if_pos (by omega)]
      · rw [if_neg h2, if_neg (by omega)]
/-- The packet as protK makes it. -/
def protL (m b : List UInt8) (sp n a : Nat) : List UInt8 := jnP m (b.set 0 (firstK m (b.getD 0 0) sp)) a n
theorem protL_at (m b : List UInt8) (sp n a j : Nat) (ha : 1 ≤ a) (h : j < b.length) : (protL m b sp n a)[j]? = some (if j = 0 then firstK m (b.getD 0 0) sp else if a ≤ j ∧ j < a + n then b.getD j 0 ^^^ m.getD (j - a + 1) 0 else b.getD j 0) := by
  rw [protL, jnP_at, List.getElem?_set]
  have hg : b[j]? = some (b.getD j 0) := by rw [List.getD_eq_getElem?_getD, List.getElem?_eq_getElem h]; rfl
  by_cases h0 : 0 = j
  · subst h0
    rw [if_neg (by omega), if_pos rfl, if_pos h, if_pos rfl]
  · rw [if_neg h0, if_neg (show ¬ j = 0 by omega), hg]
    split <;> rfl
theorem protL_len (m b : List UInt8) (sp n a : Nat) : (protL m b sp n a).length = b.length := by rw [protL, jnP_len, List.length_set]
theorem protL_0 (m b : List UInt8) (sp n a : Nat) (ha : 1 ≤ a) (h : 0 < b.length) : (protL m b sp n a).getD 0 0 = firstK m (b.getD 0 0) sp := by
  rw [List.getD_eq_getElem?_getD, protL_at m b sp n a 0 ha h]
  rfl
/-- Its sample is the packet's own. -/
theorem prot_smp (m b : List UInt8) (sp n a : Nat) (ha : 1 ≤ a) (hn : n ≤ 4) (hl : a + 20 ≤ b.length) : smpK (protL m b sp n a) a = smpK b a := by
  apply List.ext_getElem?
  intro j
  unfold smpK
  rw [List.getElem?_take, List.getElem?_take]
  split
  · rw [List.getElem?_drop, List.getElem?_drop, protL_at _ _ _ _ _ _ ha (by omega), if_neg (by omega), if_neg (by omega), List.getD_eq_getElem?_getD, List.getElem?_eq_getElem (by omega)]
    rfl
  · rfl
/-- The first bytes, with the protection off: of the number as many bytes as there may be. -/
def bareL (m b : List UInt8) (sp a : Nat) : List UInt8 := jnP m ((b.take (a + 4)).set 0 (firstK m (b.getD 0 0) sp)) a 4
theorem bare_len (m b : List UInt8) (sp a : Nat) (h : a + 4 ≤ b.length) : (bareL m b sp a).length = a + 4 := by rw [bareL, jnP_len, List.length_set, List.length_take]; omega
theorem bare_hdr (m b : List UInt8) (sp n a : Nat) (ha : 1 ≤ a) (hn : n ≤ 4) (hl : a + 4 ≤ b.length) : (bareL m (protL m b sp n a) sp a).take (a + n) = b.take (a + n) := by
  apply List.ext_getElem?
  intro j
  rw [List.getElem?_take, List.getElem?_take]
  split
  case isFalse => rfl
  case isTrue hj =>
    have hg : b[j]? = some (b.getD j 0) := by rw [List.getD_eq_getElem?_getD, List.getElem?_eq_getElem (by omega)]; rfl
    rw [bareL, jnP_at, List.getElem?_set, protL_0 m b sp n a ha (by omega), first_twice, hg]
    by_cases h0 : 0 = j
    · subst h0
      rw [if_neg (by omega), if_pos rfl, if_pos (by rw [List.length_take, protL_len]; omega)]
    · have ht : j < a + 4 := by omega
      have hp : ((protL m b sp n a).take (a + 4))[j]? = some (if a ≤ j ∧ j < a + n then b.getD j 0 ^^^ m.getD (j - a + 1) 0 else b.getD j 0) := by
        rw [List.getElem?_take, if_pos ht, protL_at _ _ _ _ _ _ ha (by omega), if_neg (show ¬ j = 0 by omega)]
      rw [if_neg h0, hp]
      by_cases h2 : a ≤ j
      · have h3 : a ≤ j ∧ j < a + n := ⟨h2, hj⟩
        have h4 : a ≤ j ∧ j < a + 4 := ⟨h2, ht⟩
        rw [if_pos h3, if_pos h4]
        exact congrArg some (xor_twice8 _ _)
      · have h3 : ¬ (a ≤ j ∧ j < a + n) := fun h => h2 h.1
        have h4 : ¬ (a ≤ j ∧ j < a + 4) := fun h => h2 h.1
        rw [if_neg h3, if_neg h4]
theorem bare_0 (m b : List UInt8) (sp n a : Nat) (ha : 1 ≤ a) (hl : a + 4 ≤ b.length) : (bareL m (protL m b sp n a) sp a).getD 0 0 = b.getD 0 0 := by
  rw [List.getD_eq_getElem?_getD, bareL, jnP_at, if_neg (by omega), List.getElem?_set, if_pos rfl, if_pos (by rw [List.length_take, protL_len]; omega), protL_0 m b sp n a ha (by omega), first_twice]
  rfl
theorem bare_num (m b : List UInt8) (sp n a : Nat) (ha : 1 ≤ a) (hn : n ≤ 4) (hl : a + 4 ≤ b.length) : ((bareL m (protL m b sp n a) sp a).drop a).take n = (b.drop a).take n := by
  have h := congrArg (List.drop a) (bare_hdr m b sp n a ha hn hl)
  rw [List.drop_take, List.drop_take, show a + n - a = n by omega] at h
  exact h
/-- Behind the number nothing is turned. -/
theorem prot_box (m b : List UInt8) (sp n a : Nat) (ha : 1 ≤ a) : (protL m b sp n a).drop (a + n) = b.drop (a + n) := by
  apply List.ext_getElem?
  intro j
  rw [List.getElem?_drop, List.getElem?_drop]
  by_cases h : a + n + j < b.length
  · rw [protL_at _ _ _ _ _ _ ha h, if_neg (by omega), if_neg (by omega), List.getD_eq_getElem?_getD, List.getElem?_eq_getElem h]
    rfl
  · rw [List.getElem?_eq_none (by rw [protL_len]; omega), List.getElem?_eq_none (by omega)]
end
end Go.Proofs.YtbnnjkjmadnjkaaDoor
