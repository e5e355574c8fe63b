/-
  hostlerlaw08.known: the document's examples.
-/
import Derived.Deep.CutRange
import Derived.Lib.SlBytesConst
import Derived.Test.YtkefjckhkibpfaaEq
import Derived.Test.YtkefjckhkibpfaaAsSeal
namespace Go.Proofs.Ytkefjckhkibpfaa
open Go.RowKit
set_option linter.unusedVariables false

def kvN : Nat → List UInt8
  | 0 => List.replicate 16 0
  | k + 1 => (kvN k).set k (UInt8.ofNat k)
def bvN : Nat → List UInt8
  | 0 => List.replicate 16 0
  | k + 1 => (bvN k).set k (UInt8.ofNat (17 * k))
theorem kvN_len (k : Nat) : (kvN k).length = 16 := by
  induction k with
  | zero => rfl
  | succ k ih => simp [kvN, ih]
theorem bvN_len (k : Nat) : (bvN k).length = 16 := by
  induction k with
  | zero => rfl
  | succ k ih => simp [bvN, ih]
def exOut : List UInt8 := [105, 196, 224, 216, 106, 123, 4, 48, 216, 205, 183, 128, 112, 180, 197, 90]
theorem ex_out : seL (ksL (kvN 16)) (bvN 16) = exOut := by decide +kernel
theorem ex_sub : sB 0 = 99 ∧ sB 83 = 237 ∧ sB 255 = 22 := by decide +kernel

/-- All that stood at a world stands. -/
def SinceA (w0 wr : World) : Prop := Below w0.heap.size w0 wr
theorem SinceA.self (w : World) : SinceA w w := Below.refl _ _
theorem SinceA.trans {a b c : World} (h : SinceA a b) (k : SinceA b c) : SinceA a c := Below.trans h (k.mono h.size)
theorem SinceA.wh {a b : World} (h : SinceA a b) {g : Nat} {t : TypeId} {cs : Array Value} (hw : Wh a g t cs) : Wh b g t cs := hw.below h hw.lt
theorem kv_byte {k : Nat} (h : k < 16) : (k : Int) = ((UInt8.ofNat k).toNat : Int) := by
  have e : (UInt8.ofNat k).toNat = k := by simp; omega
  rw [e]
theorem bv_byte {k : Nat} (h : k < 16) : 17 * (k : Int) = ((UInt8.ofNat (17 * k)).toNat : Int) := by
  have e : (UInt8.ofNat (17 * k)).toNat = 17 * k := by simp; omega
  rw [e]
  omega
theorem zlen : (List.replicate 16 (0 : UInt8)).length = 16 := rfl
theorem sl_of_whA {w : World} {g : Nat} {t : TypeId} {l : List UInt8} (h : Wh w g t (aRow l)) : Sl w w.heap.size (some ⟨g, 0, none⟩) l := by
  intro _
  refine ⟨g, 0, rfl, h.lt, fun i v hv => ?_⟩
  rw [Nat.zero_add, h.cell, aRow, List.getElem?_toArray]
  exact hv

theorem wpList_load_blkG {ops : Array Oper} {rest : List Oper} {op : Oper} {a : Act} {w : World} {Q : Exit → Act → World → Prop} (x : Operand) (ho : op.op = .load 22 x) (hw : Region.wanted op (yielded ops a.tmps) = true)
    (b o : Nat) (hx : a.eval x = .pointer (some ⟨b, o, none⟩)) (l : List UInt8) (hl : l.length = 16) (hc : w.rangeAt b o (l.map cell8))
    (h : wpList Try.prog ops Q rest (a.put op.dst (.agg (aRow l))) w) : wpList Try.prog ops Q (op :: rest) a w :=
  wpList_step fun K hK => by
    rw [if_pos hw]
    exact wp_load_mid 22 x ho b o hx (l.map cell8) _ hc Try.underlying22 rfl (by rw [List.length_map, hl]; exact info_a16) (hK _ _ h)
theorem wpList_built0G {P : Program} {ops : Array Oper} {rest : List Oper} {o : Oper} {a : Act} {w : World} {Q : Exit → Act → World → Prop} (t : TypeId) (ho : o.op = .build t #[]) (hw : Region.wanted o (yielded ops a.tmps) = true)
    (cells : Array Value) (hb : P.built t [] = some cells)
    (h : wpList P ops Q rest (a.put o.dst (.agg cells)) w) : wpList P ops Q (o :: rest) a w := by
  have e : ((#[] : Array (Nat × Operand)).map fun (i, x) => (i, a.eval x)).toList = [] := by simp
  exact wpList_step fun K hK => by
    rw [if_pos hw]
    exact wp_build t #[] ho (by rw [e, hb]; rfl) (by rw [e, hb]; exact hK _ _ h)
theorem aRow_ints (l : List UInt8) : aRow l = (ints .u8 (l.map fun x => (x.toNat : Int))).toArray := by
  unfold aRow ints
  rw [List.map_map]
  rfl
theorem bytes_wfA (l : List UInt8) : ∀ z ∈ l.map (fun x => (x.toNat : Int)), (Lit.int .u8 z).wf = true := by
  intro z hz
  obtain ⟨x, _, rfl⟩ := List.mem_map.1 hz
  have := x.toNat_lt
  simp only [Lit.wf, Bool.and_eq_true, decide_eq_true_eq]
  refine ⟨?_, ?_⟩ <;> simp [IntKind.min, IntKind.max, IntKind.signed, IntKind.bits] <;> omega
/-- '==' of two blocks. -/
theorem eq_blks (a b : List UInt8) (ha : a.length = 16) (hb : b.length = 16) (w : World) : (Op.equalIn 10000 22 (.agg (aRow a)) (.agg (aRow b))).run Try.prog w = .ok (decide (a = b)) w := by
  rw [aRow_ints, aRow_ints]
  have h := run_equalIn_ints (P := Try.prog) (q := .u8) (n := 16) Try.underlying22 Try.underlying5 (by kernel_rfl) (by kernel_rfl) (by kernel_rfl) (a.map fun x => (x.toNat : Int)) (b.map fun x => (x.toNat : Int)) (by simpa using ha) (by simpa using hb) (bytes_wfA a) (bytes_wfA b) w
  rw [h]
  congr 1
  rw [decide_eq_decide]
  exact ⟨fun e => List.map_inj_right (fun x y h => b_inj h) |>.1 e, fun e => by rw [e]⟩
theorem sub_ex0 (w : World) : Calls Try.prog 11 #[.int .u8 0] w fun e w' => e = .returned (.int .u8 99) ∧ w = w' := by
  have h := sub_any 0 w
  rw [ex_sub.1] at h
  exact h
theorem sub_ex1 (w : World) : Calls Try.prog 11 #[.int .u8 83] w fun e w' => e = .returned (.int .u8 237) ∧ w = w' := by
  have h := sub_any 83 w
  rw [ex_sub.2.1] at h
  exact h
theorem sub_ex2 (w : World) : Calls Try.prog 11 #[.int .u8 255] w fun e w' => e = .returned (.int .u8 22) ∧ w = w' := by
  have h := sub_any 255 w
  rw [ex_sub.2.2] at h
  exact h

set_option maxRecDepth 100000 in
set_option maxHeartbeats 400000 in
theorem known_any (w : World) : Calls Try.prog 5 #[] w fun e w' => e = .returned (.bool true) ∧ Below w.heap.size w w' := by
  go_enter Try.func5, Try.ntmps5
  go_upto_region 2 with (fail)
  rw [zeros16]
  obtain ⟨hbe, h2, h3⟩ := made2 w (aRow (List.replicate 16 0)) (aRow (List.replicate 16 0)) 22 22
  generalize (w.alloc (.cells (aRow (List.replicate 16 0)) 22)).alloc (.cells (aRow (List.replicate 16 0)) 22) = W at *
  obtain ⟨a, ha⟩ : ∃ a, a = w.heap.size := ⟨_, rfl⟩
  obtain ⟨b, hb⟩ : ∃ b, b = w.heap.size + 1 := ⟨_, rfl⟩
  rw [← ha] at h2
  rw [← hb] at h3
  rw [← hb, ← ha]
  have hab : a < b := by omega
  have hwa : w.heap.size ≤ a := by omega
  have HBE := Lib.hid hbe
  have H2 := Lib.hid h2
  have H3 := Lib.hid h3
  clear ha hb hbe h2 h3
  go_wp2
  go_loopw [3, 6] (fun _ i wr => ∃ k : Nat, k ≤ 16 ∧ i = .int .i64 (k : Int) ∧ Hid (Wh wr a 22 (aRow (kvN k))) ∧ Hid (Wh wr b 22 (aRow (bvN k))) ∧ Hid (Below w.heap.size w wr)) (fun _ i _ => 16 - (intOf i).toNat)
  case atStart => exact ⟨0, by omega, rfl, H2, H3, HBE⟩
  case round =>
    obtain ⟨k, hk, rfl, HA, HB, HW⟩ := hrel
    clear H2 H3 HBE
    by_cases hlt : k < 16
    · have ca : ∃ u, wr.cell? ⟨a, k, none⟩ = some (.int .u8 ((u : UInt8).toNat : Int)) := ⟨_, (HA.out.cell k).trans (aRow_at (by rw [kvN_len]; exact hlt))⟩
      have cb : ∃ u, wr.cell? ⟨b, k, none⟩ = some (.int .u8 ((u : UInt8).toNat : Int)) := ⟨_, (HB.out.cell k).trans (aRow_at (by rw [bvN_len]; exact hlt))⟩
      obtain ⟨ua, ca⟩ := ca
      obtain ⟨ub, cb⟩ := cb
      have fa := HA.out.frozen k
      have fb := HB.out.frozen k
      have hne : ¬ a = b := by omega
      go_wp2
      have e1 : Value.int .u8 (k : Int) = .int .u8 ((UInt8.ofNat k).toNat : Int) := by rw [← kv_byte hlt]
      have e2 : Value.int .u8 (17 * (k : Int)) = .int .u8 ((UInt8.ofNat (17 * k)).toNat : Int) := by rw [← bv_byte hlt]
      rw [e1, e2]
      have HA1 := HA.out.put k (.int .u8 ((UInt8.ofNat k).toNat : Int))
      rw [aRow_set] at HA1
      have hg1 := grown_set wr a k (.int .u8 ((UInt8.ofNat k).toNat : Int))
      have HB1 := HB.out.grown hg1 (by intro e; have := Option.some.inj e; omega)
      have hw1 := below_grown HW.out hg1 hwa HW.out.size
      generalize wr.setCell ⟨a, k, none⟩ (.int .u8 ((UInt8.ofNat k).toNat : Int)) = w1 at *
      have HB2 := HB1.put k (.int .u8 ((UInt8.ofNat (17 * k)).toNat : Int))
      rw [aRow_set] at HB2
      have hg2 := grown_set w1 b k (.int .u8 ((UInt8.ofNat (17 * k)).toNat : Int))
      have HA2 := HA1.grown hg2 (by intro e; have := Option.some.inj e; omega)
      have hw2 := below_grown hw1 hg2 (by omega) hw1.size
      refine ⟨⟨k + 1, by omega, rfl, ?_, ?_, Lib.hid hw2⟩, by simp [intOf]; omega⟩
      · rw [kvN]
        exact Lib.hid HA2
      · rw [bvN]
        exact Lib.hid HB2
    · have hkd : decide ((k : Int) < 16) = false := by rw [decide_eq_false_iff_not]; omega
      obtain ⟨x, hx⟩ : ∃ x, x = kvN 16 := ⟨_, rfl⟩
      obtain ⟨y, hy⟩ : ∃ y, y = bvN 16 := ⟨_, rfl⟩
      have hA : Wh wr.drew a 22 (aRow x) := by
        have h := HA.out
        rw [show k = 16 by omega, ← hx] at h
        exact h
      have hB : Wh wr.drew b 22 (aRow y) := by
        have h := HB.out
        rw [show k = 16 by omega, ← hy] at h
        exact h
      have hx16 : x.length = 16 := by rw [hx]; exact kvN_len 16
      have hy16 : y.length = 16 := by rw [hy]; exact bvN_len 16
      have hkb := ksL_b hx16
      have hz16 := seL_len (ksL x) y
      have hze : seL (ksL x) y = exOut := by rw [hx, hy]; exact ex_out
      have hnx := fun w' => new_any x w' hx16
      obtain ⟨ks, hks⟩ : ∃ ks, ks = ksL x := ⟨_, rfl⟩
      obtain ⟨z, hz⟩ : ∃ z, z = seL ks y := ⟨_, rfl⟩
      rw [← hks] at hkb hz16 hze
      rw [← hz] at hz16 hze
      unfold MadeC at hnx
      rw [← hks] at hnx
      have hsl := fun (g : Nat) (w' : World) (hg : Wh w' g 39 (aRow ks.flatten)) => seal_any g ks y w' hkb hg hy16
      rw [← hz] at hsl
      have HX16 := Deep.mk hx16
      have HY16 := Deep.mk hy16
      have HZ16 := Deep.mk hz16
      have HZE := Deep.mk hze
      have HNX := Deep.mk hnx
      have HSL := Deep.mk hsl
      clear HA HB hx hy hx16 hy16 hkb hz16 hze hnx hsl hks hz hlt hk
      go_upto_region 7 with (fail)
      go_cut [4] (fun v wx => ∃ r, v = .pointer (some ⟨r, 0, none⟩) ∧ Hid (Wh wx r 22 (aRow z)) ∧ Hid (Below w.heap.size w wx) ∧ Hid (Wh wx b 22 (aRow y)))
      case first =>
        go_wp2_with fail
        refine wp_region_held_drew (S := fun w' => SinceA wr.drew w') (by kernel_rfl) (SinceA.self _) (fun _ => ?_)
        have hW0 : Below w.heap.size w wr.drew := HW.out.drew
        generalize wr.drew = w0 at *
        refine wpAnyH_take (i := 0) (v := .agg (aRow x)) (List.getElem?_toArray.trans rfl) (by kernel_rfl) (by kernel_rfl) (by kernel_rfl) (fun _ _ _ h => h) (yields_blk (by rfl) (.tmp 1) rfl a 0 rfl x HX16.out (fun w' hS => (SinceA.wh hS hA).range)) (SinceA.self _) ?_
        refine act_normA (by simp only [Act.put, List.setIfInBounds_toArray, List.set_cons_zero, List.set_cons_succ]; rfl) ?_
        refine wpAnyH_take (i := 2) (v := .agg (aRow y)) (List.getElem?_toArray.trans rfl) (by kernel_rfl) (by kernel_rfl) (by kernel_rfl) (fun _ _ _ h => h) (yields_blk (by rfl) (.tmp 2) rfl b 0 rfl y HY16.out (fun w' hS => (SinceA.wh hS hB).range)) (SinceA.self _) ?_
        refine act_normA (by simp only [Act.put, List.setIfInBounds_toArray, List.set_cons_zero, List.set_cons_succ]; rfl) ?_
        refine wpAnyH_ready (rs := [1, 4]) (by kernel_rfl) (by simp) (AllReadyH.cons (List.getElem?_toArray.trans rfl) (fun K' hK => ?_) (AllReadyH.cons (List.getElem?_toArray.trans rfl) (fun K' hK => ?_) AllReadyH.nil))
        · refine wanted_goA rfl ?_
          go_simp
          refine (HNX.out w0).mono ?_
          rintro e wa1 ⟨gwa1, rfl, hgewa1, hgwa1, hbwa1⟩
          have hBwa1 := SinceA.trans (SinceA.self w0) hbwa1
          have hlywa1 := (hB).lt
          have hywa1 := SinceA.wh hbwa1 hB
          refine hK.out _ _ hBwa1 (fun _ => ?_)
          clear hK K'
          refine wpAnyH_ready (rs := [3, 4]) (by kernel_rfl) (by simp) (AllReadyH.cons (List.getElem?_toArray.trans rfl) (fun K' hK => ?_) (AllReadyH.cons (List.getElem?_toArray.trans rfl) (fun K' hK => ?_) AllReadyH.nil))
          · refine wanted_goA rfl ?_
            go_simp
            refine (HSL.out gwa1 wa1 hgwa1).mono ?_
            rintro e wa2 ⟨rfl, hbwa2⟩
            have hBwa2 := SinceA.trans hBwa1 hbwa2
            have hlywa2 := (hywa1).lt
            have hywa2 := SinceA.wh hbwa2 hywa1
            have hlgwa2 := (hgwa1).lt
            have hgwa2 := SinceA.wh hbwa2 hgwa1
            refine hK.out _ _ hBwa2 (fun _ => ?_)
            clear hK K'
            refine wpAnyH_ready (rs := [4]) (by kernel_rfl) (by simp) (AllReadyH.cons (List.getElem?_toArray.trans rfl) (fun K' hK => ?_) AllReadyH.nil)
            refine wanted_goA rfl ?_
            go_simp
            rw [zeros16]
            obtain ⟨rwa3, erwa3⟩ : ∃ r, r = wa2.heap.size := ⟨_, rfl⟩
            rw [← erwa3]
            have hbwa3 : SinceA wa2 (wa2.alloc (.cells (aRow (List.replicate 16 0)) 22)) := (Below.refl _ _).alloc (Nat.le_refl _) _
            have hxwa3 : Wh (wa2.alloc (.cells (aRow (List.replicate 16 0)) 22)) rwa3 22 (aRow (List.replicate 16 0)) := by rw [erwa3]; exact Wh.new _ _ _
            have hnrwa3 : w0.heap.size ≤ rwa3 := by rw [erwa3]; exact (hBwa2).size
            generalize wa2.alloc (.cells (aRow (List.replicate 16 0)) 22) = wa3 at *
            have hBwa3 := SinceA.trans hBwa2 hbwa3
            have hywa3 := SinceA.wh hbwa3 hywa2
            have hdyr : b ≠ rwa3 := by have := (hywa2).lt; omega
            have hgwa3 := SinceA.wh hbwa3 hgwa2
            have hdgr : gwa1 ≠ rwa3 := by have := (hgwa2).lt; omega
            refine hK.out _ _ hBwa3 (fun _ => ?_)
            clear hK K' erwa3
            refine wpAnyH_ready (rs := [5]) (by kernel_rfl) (by simp) (AllReadyH.cons (List.getElem?_toArray.trans rfl) (fun K' hK => ?_) AllReadyH.nil)
            refine wanted_goA rfl ?_
            refine wp_store_mid 22 (.tmp 4) (.tmp 22) rfl rwa3 0 (aRow z) rfl rfl (by rw [aRow_size, HZ16.out]; exact (hxwa3).there zlen) (info_aRow HZ16.out) (aRow_one _) ?_
            rw [aRow_list]
            obtain ⟨hxwa4, hvwa4⟩ := Wh.over hxwa3 zlen HZ16.out
            generalize wa3.setCells rwa3 0 (z.map cell8) = wa4 at *
            have hBwa4 : SinceA w0 wa4 := below_grown hBwa3 hvwa4 hnrwa3 (hBwa3).size
            have hywa4 := Wh.grown hywa3 hvwa4 (by intro e; have := Option.some.inj e; omega)
            have hgwa4 := Wh.grown hgwa3 hvwa4 (by intro e; have := Option.some.inj e; omega)
            refine hK.out _ _ hBwa4 (fun _ => ?_)
            clear hK K'
            refine wpAnyH_done (by kernel_rfl) ?_ _
            go_wp2_with fail
            go_meet
            exact ⟨rwa3, rfl, Lib.hid hxwa4, Lib.hid (hW0.trans ((hBwa4).mono hW0.size)), Lib.hid hywa4⟩
          · refine wanted_goA rfl ?_
            go_simp
            rw [zeros16]
            obtain ⟨rwa5, erwa5⟩ : ∃ r, r = wa1.heap.size := ⟨_, rfl⟩
            rw [← erwa5]
            have hbwa5 : SinceA wa1 (wa1.alloc (.cells (aRow (List.replicate 16 0)) 22)) := (Below.refl _ _).alloc (Nat.le_refl _) _
            have hxwa5 : Wh (wa1.alloc (.cells (aRow (List.replicate 16 0)) 22)) rwa5 22 (aRow (List.replicate 16 0)) := by rw [erwa5]; exact Wh.new _ _ _
            have hnrwa5 : w0.heap.size ≤ rwa5 := by rw [erwa5]; exact (hBwa1).size
            generalize wa1.alloc (.cells (aRow (List.replicate 16 0)) 22) = wa5 at *
            have hBwa5 := SinceA.trans hBwa1 hbwa5
            have hywa5 := SinceA.wh hbwa5 hywa1
            have hdyr : b ≠ rwa5 := by have := (hywa1).lt; omega
            have hgwa5 := SinceA.wh hbwa5 hgwa1
            have hdgr : gwa1 ≠ rwa5 := by have := (hgwa1).lt; omega
            refine hK.out _ _ hBwa5 (fun _ => ?_)
            clear hK K' erwa5
            refine wpAnyH_ready (rs := [3]) (by kernel_rfl) (by simp) (AllReadyH.cons (List.getElem?_toArray.trans rfl) (fun K' hK => ?_) AllReadyH.nil)
            refine wanted_goA rfl ?_
            go_simp
            refine (HSL.out gwa1 wa5 hgwa5).mono ?_
            rintro e wa6 ⟨rfl, hbwa6⟩
            have hBwa6 := SinceA.trans hBwa5 hbwa6
            have hlywa6 := (hywa5).lt
            have hywa6 := SinceA.wh hbwa6 hywa5
            have hlgwa6 := (hgwa5).lt
            have hgwa6 := SinceA.wh hbwa6 hgwa5
            have hlrwa6 := (hxwa5).lt
            have hrwa6 := SinceA.wh hbwa6 hxwa5
            refine hK.out _ _ hBwa6 (fun _ => ?_)
            clear hK K'
            refine wpAnyH_ready (rs := [5]) (by kernel_rfl) (by simp) (AllReadyH.cons (List.getElem?_toArray.trans rfl) (fun K' hK => ?_) AllReadyH.nil)
            refine wanted_goA rfl ?_
            refine wp_store_mid 22 (.tmp 4) (.tmp 22) rfl rwa5 0 (aRow z) rfl rfl (by rw [aRow_size, HZ16.out]; exact (hrwa6).there zlen) (info_aRow HZ16.out) (aRow_one _) ?_
            rw [aRow_list]
            obtain ⟨hxwa7, hvwa7⟩ := Wh.over hrwa6 zlen HZ16.out
            generalize wa6.setCells rwa5 0 (z.map cell8) = wa7 at *
            have hBwa7 : SinceA w0 wa7 := below_grown hBwa6 hvwa7 hnrwa5 (hBwa6).size
            have hywa7 := Wh.grown hywa6 hvwa7 (by intro e; have := Option.some.inj e; omega)
            have hgwa7 := Wh.grown hgwa6 hvwa7 (by intro e; have := Option.some.inj e; omega)
            refine hK.out _ _ hBwa7 (fun _ => ?_)
            clear hK K'
            refine wpAnyH_done (by kernel_rfl) ?_ _
            go_wp2_with fail
            go_meet
            exact ⟨rwa5, rfl, Lib.hid hxwa7, Lib.hid (hW0.trans ((hBwa7).mono hW0.size)), Lib.hid hywa7⟩
        · refine wanted_goA rfl ?_
          go_simp
          rw [zeros16]
          obtain ⟨rwa8, erwa8⟩ : ∃ r, r = w0.heap.size := ⟨_, rfl⟩
          rw [← erwa8]
          have hbwa8 : SinceA w0 (w0.alloc (.cells (aRow (List.replicate 16 0)) 22)) := (Below.refl _ _).alloc (Nat.le_refl _) _
          have hxwa8 : Wh (w0.alloc (.cells (aRow (List.replicate 16 0)) 22)) rwa8 22 (aRow (List.replicate 16 0)) := by rw [erwa8]; exact Wh.new _ _ _
          have hnrwa8 : w0.heap.size ≤ rwa8 := by rw [erwa8]; exact ((SinceA.self w0)).size
          generalize w0.alloc (.cells (aRow (List.replicate 16 0)) 22) = wa8 at *
          have hBwa8 := SinceA.trans (SinceA.self w0) hbwa8
          have hywa8 := SinceA.wh hbwa8 hB
          have hdyr : b ≠ rwa8 := by have := (hB).lt; omega
          refine hK.out _ _ hBwa8 (fun _ => ?_)
          clear hK K' erwa8
          refine wpAnyH_ready (rs := [1]) (by kernel_rfl) (by simp) (AllReadyH.cons (List.getElem?_toArray.trans rfl) (fun K' hK => ?_) AllReadyH.nil)
          refine wanted_goA rfl ?_
          go_simp
          refine (HNX.out wa8).mono ?_
          rintro e wa9 ⟨gwa9, rfl, hgewa9, hgwa9, hbwa9⟩
          have hBwa9 := SinceA.trans hBwa8 hbwa9
          have hlywa9 := (hywa8).lt
          have hywa9 := SinceA.wh hbwa9 hywa8
          have hlrwa9 := (hxwa8).lt
          have hrwa9 := SinceA.wh hbwa9 hxwa8
          refine hK.out _ _ hBwa9 (fun _ => ?_)
          clear hK K'
          refine wpAnyH_ready (rs := [3]) (by kernel_rfl) (by simp) (AllReadyH.cons (List.getElem?_toArray.trans rfl) (fun K' hK => ?_) AllReadyH.nil)
          refine wanted_goA rfl ?_
          go_simp
          refine (HSL.out gwa9 wa9 hgwa9).mono ?_
          rintro e wa10 ⟨rfl, hbwa10⟩
          have hBwa10 := SinceA.trans hBwa9 hbwa10
          have hlywa10 := (hywa9).lt
          have hywa10 := SinceA.wh hbwa10 hywa9
          have hlrwa10 := (hrwa9).lt
          have hrwa10 := SinceA.wh hbwa10 hrwa9
          have hlgwa10 := (hgwa9).lt
          have hgwa10 := SinceA.wh hbwa10 hgwa9
          refine hK.out _ _ hBwa10 (fun _ => ?_)
          clear hK K'
          refine wpAnyH_ready (rs := [5]) (by kernel_rfl) (by simp) (AllReadyH.cons (List.getElem?_toArray.trans rfl) (fun K' hK => ?_) AllReadyH.nil)
          refine wanted_goA rfl ?_
          refine wp_store_mid 22 (.tmp 4) (.tmp 22) rfl rwa8 0 (aRow z) rfl rfl (by rw [aRow_size, HZ16.out]; exact (hrwa10).there zlen) (info_aRow HZ16.out) (aRow_one _) ?_
          rw [aRow_list]
          obtain ⟨hxwa11, hvwa11⟩ := Wh.over hrwa10 zlen HZ16.out
          generalize wa10.setCells rwa8 0 (z.map cell8) = wa11 at *
          have hBwa11 : SinceA w0 wa11 := below_grown hBwa10 hvwa11 hnrwa8 (hBwa10).size
          have hywa11 := Wh.grown hywa10 hvwa11 (by intro e; have := Option.some.inj e; omega)
          have hgwa11 := Wh.grown hgwa10 hvwa11 (by intro e; have := Option.some.inj e; omega)
          refine hK.out _ _ hBwa11 (fun _ => ?_)
          clear hK K'
          refine wpAnyH_done (by kernel_rfl) ?_ _
          go_wp2_with fail
          go_meet
          exact ⟨rwa8, rfl, Lib.hid hxwa11, Lib.hid (hW0.trans ((hBwa11).mono hW0.size)), Lib.hid hywa11⟩
      case rest =>
        obtain ⟨r, rfl, HRR, HBW, HBB⟩ := hcut
        clear hA hB HNX HSL HW
        have hstr := run_string_sl (P := Try.prog) wc 24 9 5 Try.underlying24 Try.underlying5 Try.underlying9 wc.heap.size (some ⟨r, 0, none⟩) 16 16 z (sl_of_whA HRR.out) HZ16.out
        rw [HZE.out, show strB exOut = { data := #[105, 196, 224, 216, 106, 123, 4, 48, 216, 205, 183, 128, 112, 180, 197, 90] } from rfl] at hstr
        have hsn := seal_nil y wc HY16.out
        have heq := fun w' => eq_blks (List.replicate 16 0) (List.replicate 16 0) zlen zlen w'
        rw [decide_eq_true rfl] at heq
        have hz0 : Try.prog.built 22 [] = some (aRow (List.replicate 16 0)) := by kernel_rfl
        obtain ⟨zr, hzr⟩ : ∃ zr, zr = aRow (List.replicate 16 0) := ⟨_, rfl⟩
        rw [← hzr] at hsn heq hz0
        have HSN := Lib.hid hsn
        have HZ0 := Deep.mk hz0
        clear hsn hz0 hzr HZE
        go_wp2_with (first
          | (go_at_call 11; first | (refine (sub_ex0 _).mono ?_; rintro e w1 ⟨rfl, rfl⟩) | (refine (sub_ex1 _).mono ?_; rintro e w1 ⟨rfl, rfl⟩) | (refine (sub_ex2 _).mono ?_; rintro e w1 ⟨rfl, rfl⟩))
          | (go_at_call 10; refine HSN.out.mono ?_; rintro e w2 ⟨rfl, hb2⟩; have HB2 := Lib.hid (HBW.out.trans (hb2.mono HBW.out.size)); clear hb2)
          | (refine wpList_load_blkG (op := ⟨some 40, _, _, _, _, _⟩) (.tmp 2) rfl rfl b 0 rfl y HY16.out (Wh.range HBB.out) ?_)
          | (refine wpList_built0G (o := ⟨some 42, _, _, _, _, _⟩) 22 rfl rfl zr HZ0.out ?_))
        go_ret
        exact ⟨rfl, HB2.out⟩
end Go.Proofs.Ytkefjckhkibpfaa
