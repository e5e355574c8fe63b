/-
  The document's own row, nonce and bits (hostlerref10).
  What was sealed is opened as it was; one bit changed, and it is not: plain mathematics over gcm's specification.
  The document's tag is the program's: plain mathematics.
  hostlerref09.bit: a block's bit.
  Two texts added byte by byte, in rounds; own bytes at an address.
-/
import Derived.Test.YtblclinfcdalaaaDoorSb3
import Derived.Test.YtblclinfcdalaaaDoorSb25
import Derived.Test.YtblclinfcdalaaaDoorKyFill
import Derived.Test.YtblclinfcdalaaaDoorSb21
import Derived.Test.YtblclinfcdalaaaDoorSb36
import Derived.Test.YtblclinfcdalaaaDoorSb2
import Derived.Test.YtblclinfcdalaaaDoorSb27
import Derived.Test.YtblclinfcdalaaaDoorProg
namespace Go.Proofs.YtblclinfcdalaaaDoor
section
open Go.RowKit
set_option linter.unusedVariables false

theorem take_more1 {l : List UInt8} {k : Nat} (h : k < l.length) : l.take k ++ [l.getD k 0] = l.take (k + 1) := by
  rw [List.take_succ_eq_append_getElem h]
  simp [List.getD, h]

set_option maxRecDepth 100000 in
set_option maxHeartbeats 800000 in
theorem rrow_any (l : List UInt8) (w : World) (hl : l.length = 16) :
    Calls Tryd.prog 41 #[.agg (aRow l)] w (GaveN w 16 l) := by
  obtain ⟨i0, hi0, hz0, hz1, hz2⟩ := info_parts info8
  have HL := Deep.mk hl
  have HSZ : (aRow l).size = 16 := by rw [aRow_size, hl]
  have hbe : Below w.heap.size w (w.alloc (.cells (aRow l) 26)) := (Below.refl _ _).alloc (Nat.le_refl _) _
  have h2 := Wh.new w 26 (aRow l)
  clear hl
  go_enter Tryd.func41, Tryd.ntmps41
  go_upto_region 1 with (fail)
  generalize w.alloc (.cells (aRow l) 26) = W at *
  obtain ⟨b, hb⟩ : ∃ b, b = w.heap.size := ⟨_, rfl⟩
  rw [← hb] at h2 ⊢
  have hbW := h2.lt
  have H2 := Lib.hid h2
  have HBE := Lib.hid hbe
  obtain ⟨B, hB⟩ : ∃ B, B = W.heap.size := ⟨_, rfl⟩
  have hBW : B ≤ W.heap.size := by omega
  have hbB : b < B := by omega
  have hwB : w.heap.size ≤ B := by omega
  have HBq := Deep.mk hB
  have HO0 : Hid (OwB B 5 W W (.slice none 0 0) (l.take 0)) := Lib.hid ⟨by rw [List.take_zero]; simpa using World.ownsRow_nil W B 5 1, by rw [hB]; exact Below.refl _ _, hBW⟩
  clear hB hb h2 hbe
  go_wp2_with fail
  go_loopw [3, 4] (fun v i wr => ∃ k : Nat, k ≤ 16 ∧ i = .int .i64 (k : Int) ∧ (∃ A' c', v = .slice A' k c') ∧ Hid (OwB B 5 W wr v (l.take k))) (fun _ i _ => 16 - (intOf i).toNat)
  case atStart => exact ⟨0, by omega, rfl, ⟨none, 0, rfl⟩, HO0⟩
  case round =>
    obtain ⟨k, hk, rfl, ⟨A1, c1, rfl⟩, HO⟩ := hrel
    clear HO0
    by_cases hlt : k < 16
    · have hkl : k < l.length := by have := HL.out; omega
      have hs := (World.cell?_of_block (HO.out.2.1.block b (by omega))).trans ((H2.out.cell k).trans (aRow_at hkl))
      have hst := take_more1 hkl
      generalize hx : l.getD k 0 = x at *
      have HST1 := Deep.mk hst
      have t1 : decide ((k : Int) < 16) = true := decide_eq_true (by omega)
      have hown := HO.out.1
      have hll : (l.take k).length = k := by rw [List.length_take]; omega
      rw [hll] at hown
      have hbz := HO.out.2.2
      have HLL := Deep.mk hll
      have HX := Deep.mk hx
      clear hst hkl hll hx
      go_wp2_with (first
        | (at_builtin; refine wpList_append_sv _ rfl (.tmp 9) (.tmp 13) _ rfl B 5 i0 _ 1 Tryd.underlying23 hi0 hz0 hz1 hz2 rfl (.slice A1 k c1) _ _ rfl (hown.alloc _) _ _ 1 1 [.int .u8 (x.toNat : Int)] rfl (sv_new _ _ _) rfl (fun u hu => by simp at hu; subst hu; rfl) (by unfold maxLen; omega) (by omega) (by simp; omega) ?_; intro v2 w2 hown2 hg2 hat2; have HO3 := Lib.hid (HO.out.more x _ (by rw [HLL.out]; exact hown2) hg2); clear hg2 hat2 hown2))
      have HO4 : Hid (OwB B 5 W w2 v2 (l.take (k + 1))) := by
        have h := HO3.out
        rw [HST1.out] at h
        exact Lib.hid h
      obtain ⟨A2, c2, e2, _, _⟩ := own_form HO4.out.1
      have hl2 : (l.take (k + 1)).length = k + 1 := by rw [List.length_take]; have := HL.out; omega
      rw [hl2] at e2
      subst e2
      refine ⟨⟨k + 1, by omega, rfl, ⟨A2, c2, rfl⟩, HO4⟩, by simp [intOf]; omega⟩
    · have hkd : decide ((k : Int) < 16) = false := by rw [decide_eq_false_iff_not]; omega
      have hk16 : k = 16 := by omega
      have ho := HO.out
      rw [List.take_of_length_le (by have := HL.out; omega)] at ho
      obtain ⟨_, _, e, h51, h52⟩ := own_form ho.1
      simp only [Value.slice.injEq] at e
      obtain ⟨rfl, hk0, rfl⟩ := e
      clear hk0
      have ho1 := own_le ho.1 hwB
      rw [HL.out] at h51 ho1
      have hb2 := HBE.out.trans (ho.2.1.mono (by omega))
      have HO1 := Lib.hid ho1
      have HB2 := Lib.hid hb2
      have HK16 := Deep.mk hk16
      clear HO ho hk16 hlt hk ho1 hb2 H2
      go_wp2
      go_ret
      have ho1 := HO1.out
      rw [HK16.out] at ho1
      exact ⟨A1, c1, by rw [HK16.out]; rfl, h51, h52, ho1, HB2.out⟩

set_option maxRecDepth 100000 in
set_option maxHeartbeats 1000000 in
theorem rnonce_any (k : KS) (pn : Nat) (w : World) (hk : k.Ok) (hp : pn < 18446744073709551616) :
    Calls Tryd.prog 43 #[.agg (kyRow k), .int .u64 (pn : Int)] w (GaveN w 12 (nonK k.iv pn)) := by
  obtain ⟨i0, hi0, hz0, hz1, hz2⟩ := info_parts info8
  obtain ⟨Z, hZ⟩ : ∃ Z : List UInt8, Z = List.replicate 12 0 := ⟨_, rfl⟩
  have HZR := Deep.mk hZ
  have HK := Deep.mk hk
  have hbe0 : Below w.heap.size w (w.alloc (.cells (kyRow k) 29)) := (Below.refl _ _).alloc (Nat.le_refl _) _
  have h20 := Wh.new w 29 (kyRow k)
  obtain ⟨iv, hiv⟩ : ∃ iv, iv = k.iv := ⟨_, rfl⟩
  have hil : iv.length = 12 := by rw [hiv]; exact hk.iv
  have hr0 := ky_iv h20 hk
  rw [← hiv] at hr0
  have HIV := Deep.mk hiv
  have HIL := Deep.mk hil
  clear hZ hk hil
  go_enter Tryd.func43, Tryd.ntmps43
  go_upto_region 1 with (fail)
  generalize w.alloc (.cells (kyRow k) 29) = W at *
  obtain ⟨b, hb⟩ : ∃ b, b = w.heap.size := ⟨_, rfl⟩
  rw [← hb] at h20 hr0 ⊢
  have hbW := h20.lt
  have HR0 := Lib.hid hr0
  have HBE0 := Lib.hid hbe0
  have hwb : w.heap.size ≤ b := by omega
  clear h20 hr0 hbe0 hb hiv
  go_upto_region 2 with (first
    | (refine wpList_make_mn W rfl (.const (.int .i64 12)) (.const (.int .i64 12)) 23 rfl 5 i0 _ Tryd.underlying23 hi0 hz0 hz1 rfl .i64 .i64 12 12 12 12 rfl rfl rfl rfl (Nat.le_refl _) (by rw [hz2]; omega) (by omega) ?_; rw [zrow, ← HZR.out]))
  have hbe : Below W.heap.size W (W.alloc (.cells (aRow Z) 5)) := (Below.refl _ _).alloc (Nat.le_refl _) _
  have h1 := Wh.new W 5 (aRow Z)
  obtain ⟨ob, hob⟩ : ∃ b, b = W.heap.size := ⟨_, rfl⟩
  rw [← hob] at h1 ⊢
  have hbo : b < ob := by omega
  have HR1 := Lib.hid (rangeAt_below HR0.out hbe hbW)
  have HBE1 := Lib.hid (HBE0.out.trans (hbe.mono HBE0.out.size))
  generalize W.alloc (.cells (aRow Z) 5) = w1 at *
  have HO1 : Hid (Wh w1 ob 5 (aRow (rnJ iv pn 0))) := by rw [HZR.out] at h1; exact Lib.hid h1
  have hbw1 : b < w1.heap.size := by have := h1.lt; omega
  clear hob h1 hbe HR0 HBE0
  go_wp2_with fail
  go_loopw [1, 6] (fun x i wr => ∃ j : Nat, j ≤ 12 ∧ i = .int .i64 ((11 : Int) - (j : Int)) ∧ x = .int .u64 ((pn / 256 ^ j : Nat) : Int) ∧ Hid (Wh wr ob 5 (aRow (rnJ iv pn j))) ∧ Hid (w1.grownBy wr (some ob))) (fun _ i _ => (intOf i + 1).toNat)
  case atStart => exact ⟨0, by omega, rfl, by rw [Nat.pow_zero, Nat.div_one], HO1, Lib.hid (World.grownBy.refl _ _)⟩
  case round =>
    obtain ⟨j, hj, rfl, rfl, HO, HG⟩ := hrel
    clear HO1
    obtain ⟨x, hx⟩ : ∃ x, x = pn / 256 ^ j := ⟨_, rfl⟩
    have hxb : x < 18446744073709551616 := by rw [hx]; exact Nat.lt_of_le_of_lt (Nat.div_le_self _ _) hp
    have hnx : x / 256 = pn / 256 ^ (j + 1) := by rw [hx, Nat.div_div_eq_div_mul, Nat.pow_succ]
    have hyb := byte_pn pn j
    rw [← hx] at hyb ⊢
    obtain ⟨y, hy⟩ : ∃ y, y = UInt8.ofNat (x % 256) := ⟨_, rfl⟩
    rw [← hy] at hyb
    by_cases hlt : j < 12
    · obtain ⟨i, hi⟩ : ∃ i, i = 11 - j := ⟨_, rfl⟩
      have hki : (11 : Int) - (j : Int) = (i : Int) := by omega
      rw [hki]
      have hci : ∃ u, wr.cell? ⟨ob, i, none⟩ = some (.int .u8 ((u : UInt8).toNat : Int)) := ⟨_, (HO.out.cell i).trans (aRow_at (by rw [rnJ_len]; omega))⟩
      obtain ⟨u, hci⟩ := hci
      have hfi := HO.out.frozen i
      have hcs := (World.cell?_of_block (HG.out.block b hbw1 (fun e => by have := Option.some.inj e; omega))).trans (range_cell HR1.out (k := i) (by have := HIL.out; omega))
      obtain ⟨v, hv⟩ : ∃ v, v = iv.getD i 0 := ⟨_, rfl⟩
      rw [← hv] at hcs
      have hi12 : (i : Int) < 12 := by omega
      have hid : decide ((i : Int) ≥ 0) = true := by rw [decide_eq_true_iff]; omega
      have hne : ¬ b = ob := by omega
      have HNX : Deep ((rnJ iv pn j).set i (v ^^^ y) = rnJ iv pn (j + 1)) := ⟨by rw [rnJ, hi, hy, hx, hv, hi]⟩
      have HX2 := Deep.mk hnx
      have HYB := Deep.mk hyb
      have HJ1 : Deep ((i : Int) - 1 = (11 : Int) - ((j + 1 : Nat) : Int)) := ⟨by omega⟩
      have HJ2 : Hid (j + 1 ≤ 12) := Lib.hid (by omega)
      have hv8 := v.toNat_lt
      have hy8 := y.toNat_lt
      clear hx hnx hy hyb hi hki hlt hj hv
      go_wp2_with fail
      have h1 := HO.out.put i (.int .u8 (bits BinOp.xor IntKind.u8 ↑v.toNat ((x : Int) % 256)))
      have g1 := grown_set wr ob i (.int .u8 (bits BinOp.xor IntKind.u8 ↑v.toNat ((x : Int) % 256)))
      rw [HYB.out, b_xor, aRow_set, HNX.out] at h1
      refine ⟨⟨j + 1, HJ2.out, by rw [← HJ1.out], by rw [← HX2.out]; rfl, ?_, Lib.hid (grown_trans HG.out g1)⟩, by first | (simp [intOf]; done) | (simp [intOf]; omega)⟩
      rw [HYB.out, b_xor]
      exact Lib.hid h1
    · have hj12 : j = 12 := by omega
      obtain ⟨t, ht⟩ : ∃ t, t = (11 : Int) - (j : Int) := ⟨_, rfl⟩
      rw [← ht]
      have htd : decide (t ≥ 0) = false := by rw [decide_eq_false_iff_not]; omega
      have htn : ¬ (0 ≤ t) := by omega
      have hnl := nonK_len HIL.out pn
      have HWN : Hid (Wh wr ob 5 (aRow (nonK iv pn))) := by
        have h := HO.out
        rw [hj12, rn_all HIL.out hp] at h
        exact Lib.hid h
      rw [HIV.out] at hnl HWN
      generalize hz : nonK k.iv pn = z at *
      have HZ := Deep.mk hz
      have HZL := Deep.mk hnl
      have HBF := Lib.hid (below_grownA HBE1.out HG.out (by omega) HBE1.out.size)
      have hwo : w.heap.size ≤ ob := by omega
      clear HO HG hx hnx hy hyb ht hj hlt hj12 hz hnl HIV HIL HBE1
      go_wp2
      go_ret
      have hown := own_of_wh (l := z.map cell8) HWN.out w.heap.size 12 12 hwo (by rw [List.length_map, HZL.out]) (Nat.le_refl _) (by unfold maxLen; omega)
      rw [List.take_of_length_le (by rw [List.length_map, HZL.out]; exact Nat.le_refl _)] at hown
      exact ⟨_, _, rfl, Nat.le_refl _, by unfold maxLen; omega, hown, HBF.out⟩

theorem rbits_any (sp : Nat) (w : World) : Calls Tryd.prog 45 #[.int .u8 (sp : Int)] w fun e w' => e = .returned (.int .u8 (if ((sp : Int) == 2) = true then 31 else 15)) ∧ w' = w := by
  obtain ⟨b, hb⟩ : ∃ b, ((sp : Int) == 2) = b := ⟨_, rfl⟩
  rw [hb]
  cases b
  all_goals
    go_enter Tryd.func45, Tryd.ntmps45
    go_wp2
    go_ret
    exact ⟨rfl, rfl⟩
end

section
open Go.RowKit

/-- The blocks of bytes. -/
def cksG (b : List UInt8) : List W128 := (List.range ((b.length + 15) / 16)).map fun j => bkG (ckG b j)
theorem fdN_fold (f s : W128) (b : List UInt8) (j : Nat) : fdN f s b j = ((List.range j).map fun i => bkG (ckG b i)).foldl (fun y b => tmG (y ^^^ b) f) s := by
  induction j with
  | zero => rfl
  | succ j ih => rw [fdN, ih, List.range_succ, List.map_append, List.foldl_append]; rfl
theorem fdW_fold (f s : W128) (b : List UInt8) : fdW f s b = (cksG b).foldl (fun y b => tmG (y ^^^ b) f) s := fdN_fold f s b _
/-- One bit changed is one bit of one block. -/
theorem cks_set (b : List UInt8) (p t : Nat) (hp : p < b.length) (ht : t < 8) : ∃ L x i M, cksG b = L ++ x :: M ∧ cksG (b.set p (b.getD p 0 ^^^ UInt8.ofNat (2 ^ t))) = L ++ (x ^^^ pwG i oneG) :: M := by
  obtain ⟨q, hq⟩ : ∃ q, (b.length + 15) / 16 = p / 16 + (q + 1) := ⟨(b.length + 15) / 16 - p / 16 - 1, by omega⟩
  have hr : List.range ((b.length + 15) / 16) = List.range (p / 16) ++ (p / 16) :: (List.range q).map (fun i => p / 16 + 1 + i) := by
    rw [hq, List.range_add, List.range_succ_eq_map, List.map_cons, List.map_map]
    congr 1
    congr 1
    apply List.map_congr_left
    intro i _
    show p / 16 + (i + 1) = _
    omega
  refine ⟨(List.range (p / 16)).map (fun i => bkG (ckG b i)), bkG (ckG b (p / 16)), 8 * (p % 16) + (7 - t), ((List.range q).map (fun i => p / 16 + 1 + i)).map (fun i => bkG (ckG b i)), ?_, ?_⟩
  · rw [cksG, hr, List.map_append, List.map_cons]
  · have a1 : (List.range (p / 16)).map (fun i => bkG (ckG (b.set p (b.getD p 0 ^^^ UInt8.ofNat (2 ^ t))) i)) = (List.range (p / 16)).map (fun i => bkG (ckG b i)) := by
      apply List.map_congr_left
      intro i hi
      have : i < p / 16 := by simpa using hi
      rw [ck_set b p t i hp, if_neg (by omega)]
    have a2 : ((List.range q).map (fun i => p / 16 + 1 + i)).map (fun i => bkG (ckG (b.set p (b.getD p 0 ^^^ UInt8.ofNat (2 ^ t))) i)) = ((List.range q).map (fun i => p / 16 + 1 + i)).map (fun i => bkG (ckG b i)) := by
      apply List.map_congr_left
      intro i hi
      obtain ⟨j, _, rfl⟩ := List.mem_map.1 hi
      rw [ck_set b p t _ hp, if_neg (by omega)]
    rw [cksG, List.length_set, hr, List.map_append, List.map_cons, a1, a2, ck_set b p t _ hp, if_pos rfl, bk_xor (ck_len _ _) (un_len _ _), un_bk (p % 16) (by omega) t ht]
/-- A tag's polynomial is the hash of all blocks. -/
theorem tgW_hash (ks : List (List UInt8)) (nn l m : List UInt8) : tgW ks nn l m = hashG (kyG ks) (cksG l ++ (cksG m ++ [lnW (8 * l.length) (8 * m.length)])) := by
  rw [tgW, fdW_fold, fdW_fold, hashG, List.foldl_append, List.foldl_append]
  rfl
theorem tg_ne {ks : List (List UInt8)} {nn l m l' m' : List UInt8} (h : tgW ks nn l m ≠ tgW ks nn l' m') : tgL ks nn l m ≠ tgL ks nn l' m' := by
  intro e
  have e2 := bl_inj e
  apply h
  have := congrArg (fun v => v ^^^ bkG (stG ks nn 1)) e2
  simp only [BitVec.xor_assoc, BitVec.xor_self, BitVec.xor_zero] at this
  exact this
theorem tg_text {ks : List (List UInt8)} (hk : kyG ks ≠ 0#128) (nn l m : List UInt8) (p t : Nat) (hp : p < m.length) (ht : t < 8) : tgL ks nn l (m.set p (m.getD p 0 ^^^ UInt8.ofNat (2 ^ t))) ≠ tgL ks nn l m := by
  apply tg_ne
  obtain ⟨L, x, i, M, h1, h2⟩ := cks_set m p t hp ht
  rw [tgW_hash, tgW_hash, h1, h2, List.length_set, List.append_assoc, List.append_assoc, ← List.append_assoc, ← List.append_assoc (cksG l), List.cons_append, List.cons_append]
  exact hash_bit hk _ _ _ _
theorem tg_aad {ks : List (List UInt8)} (hk : kyG ks ≠ 0#128) (nn l m : List UInt8) (p t : Nat) (hp : p < l.length) (ht : t < 8) : tgL ks nn (l.set p (l.getD p 0 ^^^ UInt8.ofNat (2 ^ t))) m ≠ tgL ks nn l m := by
  apply tg_ne
  obtain ⟨L, x, i, M, h1, h2⟩ := cks_set l p t hp ht
  rw [tgW_hash, tgW_hash, h1, h2, List.length_set, List.append_assoc, List.append_assoc, List.cons_append, List.cons_append]
  exact hash_bit hk _ _ _ _

/-- Turned twice: nothing. -/
theorem tu_tu (ks : List (List UInt8)) (nn l : List UInt8) : tuL ks nn (tuL ks nn l) = l := by
  apply List.ext_getElem (by rw [tu_len, tu_len])
  intro i h1 h2
  have h3 : i < (tuL ks nn l).length := by rw [tu_len]; exact h2
  have e : (tuL ks nn l).getD i 0 = l.getD i 0 ^^^ (stG ks nn (2 + i / 16)).getD (i % 16) 0 := by
    rw [List.getD_eq_getElem?_getD, tuL, List.getElem?_map, List.getElem?_range h2]
    rfl
  have e2 : (tuL ks nn (tuL ks nn l))[i] = (tuL ks nn l).getD i 0 ^^^ (stG ks nn (2 + i / 16)).getD (i % 16) 0 := by
    rw [← Option.some.injEq, ← List.getElem?_eq_getElem, tuL, List.getElem?_map, List.getElem?_range h3]
    rfl
  rw [e2, e, UInt8.xor_assoc, UInt8.xor_self, UInt8.xor_zero, List.getD_eq_getElem?_getD, List.getElem?_eq_getElem h2]
  rfl
theorem seal_take (key nn l m : List UInt8) : (sealK key nn l m).take ((sealK key nn l m).length - 16) = tuL (ksL key) nn m := by
  rw [sealK_len, sealK, List.take_append_of_le_length (by rw [tu_len]; omega), List.take_of_length_le (by rw [tu_len]; omega)]
theorem seal_drop (key nn l m : List UInt8) : (sealK key nn l m).drop ((sealK key nn l m).length - 16) = tgL (ksL key) nn l (tuL (ksL key) nn m) := by
  rw [sealK_len, sealK, List.drop_append, List.drop_eq_nil_of_le (by rw [tu_len]; omega), tu_len]
  simp
theorem seal_ok (key nn l m : List UInt8) : OkG key nn l (sealK key nn l m) := ⟨by rw [sealK_len]; omega, by rw [seal_take, seal_drop]⟩
theorem seal_tx (key nn l m : List UInt8) : txK key nn (sealK key nn l m) = m := by rw [txK, seal_take, tu_tu]
theorem xor_bit_ne (x : UInt8) (t : Nat) (ht : t < 8) : x ^^^ UInt8.ofNat (2 ^ t) ≠ x := by
  intro e
  have e2 : UInt8.ofNat (2 ^ t) = 0 := by
    have := congrArg (fun y => x ^^^ y) e
    simpa [← UInt8.xor_assoc] using this
  have : ∀ t : Nat, t < 8 → UInt8.ofNat (2 ^ t) ≠ 0 := by decide
  exact this t ht e2
/-- A bit changed, of what was sealed: it is not opened. -/
theorem bad_seal {key : List UInt8} (hk : kyG (ksL key) ≠ 0#128) (nn l m : List UInt8) (p t : Nat) (hp : p < (sealK key nn l m).length) (ht : t < 8) :
    ¬ OkG key nn l ((sealK key nn l m).set p ((sealK key nn l m).getD p 0 ^^^ UInt8.ofNat (2 ^ t))) := by
  intro h
  have h2 := h.2
  rw [List.length_set, List.take_set, List.drop_set, seal_take, seal_drop] at h2
  have hlen : (sealK key nn l m).length - 16 = m.length := by rw [sealK_len]; omega
  rw [hlen] at h2
  by_cases hpm : p < m.length
  · rw [if_pos hpm] at h2
    have e : (sealK key nn l m).getD p 0 = (tuL (ksL key) nn m).getD p 0 := by
      rw [sealK, List.getD_eq_getElem?_getD, List.getElem?_append_left (by rw [tu_len]; exact hpm)]
      rfl
    rw [e] at h2
    exact tg_text hk nn l (tuL (ksL key) nn m) p t (by rw [tu_len]; exact hpm) ht h2
  · rw [if_neg hpm, List.set_eq_of_length_le (by rw [tu_len]; omega)] at h2
    have hq : p - m.length < (tgL (ksL key) nn l (tuL (ksL key) nn m)).length := by rw [tg_len]; rw [sealK_len] at hp; omega
    have e : (sealK key nn l m).getD p 0 = (tgL (ksL key) nn l (tuL (ksL key) nn m)).getD (p - m.length) 0 := by
      rw [sealK, List.getD_eq_getElem?_getD, List.getElem?_append_right (by rw [tu_len]; omega), tu_len]
      rfl
    rw [e] at h2
    have h3 := congrArg (fun l => l[p - m.length]?) h2
    simp only [List.getElem?_set_self hq, List.getElem?_eq_getElem hq, Option.some.injEq] at h3
    rw [List.getD_eq_getElem?_getD, List.getElem?_eq_getElem hq, Option.getD_some] at h3
    exact xor_bit_ne _ t ht h3.symm
/-- A bit changed, of the aad. -/
theorem bad_aad {key : List UInt8} (hk : kyG (ksL key) ≠ 0#128) (nn l m : List UInt8) (p t : Nat) (hp : p < l.length) (ht : t < 8) :
    ¬ OkG key nn (l.set p (l.getD p 0 ^^^ UInt8.ofNat (2 ^ t))) (sealK key nn l m) := by
  intro h
  have h2 := h.2
  rw [seal_take, seal_drop] at h2
  exact tg_aad hk nn l (tuL (ksL key) nn m) p t hp ht h2
theorem ky_ne {key : List UInt8} (h : seL (ksL key) (List.replicate 16 0) ≠ List.replicate 16 0) : kyG (ksL key) ≠ 0#128 := fun e => h (bk_inj (seL_len _ _) rfl (e.trans bk_zero.symm))

/-! The document's examples, reckoned. -/
def ex0 : List UInt8 := [0x58, 0xe2, 0xfc, 0xce, 0xfa, 0x7e, 0x30, 0x61, 0x36, 0x7f, 0x1d, 0x57, 0xa4, 0xe7, 0x45, 0x5a]
def ex1 : List UInt8 := [0x03, 0x88, 0xda, 0xce, 0x60, 0xb6, 0xa3, 0x92, 0xf3, 0x28, 0xc2, 0xb9, 0x71, 0xb2, 0xfe, 0x78, 0xab, 0x6e, 0x47, 0xd4, 0x2c, 0xec, 0x13, 0xbd, 0xf5, 0x3a, 0x67, 0xb2, 0x12, 0x57, 0xbd, 0xdf]
theorem ex_0 : sealK (List.replicate 16 0) (List.replicate 12 0) [] [] = ex0 := by decide +kernel
theorem ex_1 : sealK (List.replicate 16 0) (List.replicate 12 0) [] (List.replicate 16 0) = ex1 := by decide +kernel
theorem ex_no : ¬ OkG (List.replicate 16 0) (List.replicate 12 0) [] (ex1.drop 1) := by
  intro h
  have : tgL (ksL (List.replicate 16 0)) (List.replicate 12 0) [] ((ex1.drop 1).take ((ex1.drop 1).length - 16)) ≠ (ex1.drop 1).drop ((ex1.drop 1).length - 16) := by decide +kernel
  exact this h.2
theorem ex_short : ¬ OkG (List.replicate 16 0) (List.replicate 12 0) [] (ex1.take 15) := fun h => by
  have := h.1
  simp [ex1] at this
end

section
open Go.RowKit

/-- Noughts up to a multiple of 16. -/
def whL (l : List UInt8) : List UInt8 := l ++ List.replicate ((16 - l.length % 16) % 16) 0
theorem wh_mod (l : List UInt8) : (whL l).length % 16 = 0 := by rw [whL, List.length_append, List.length_replicate]; omega
theorem wh_len (l : List UInt8) : (whL l).length = l.length + (16 - l.length % 16) % 16 := by rw [whL, List.length_append, List.length_replicate]
theorem getD_zeros (l : List UInt8) (n i : Nat) : (l ++ List.replicate n 0).getD i 0 = l.getD i 0 := by
  rw [List.getD_eq_getElem?_getD, List.getD_eq_getElem?_getD]
  by_cases h : i < l.length
  · rw [List.getElem?_append_left h]
  · rw [List.getElem?_append_right (by omega), List.getElem?_eq_none (show l.length ≤ i by omega), List.getElem?_replicate]
    split <;> rfl
theorem cks_wh (l : List UInt8) : cksG (whL l) = cksG l := by
  unfold cksG
  have e : ((whL l).length + 15) / 16 = (l.length + 15) / 16 := by rw [wh_len]; omega
  rw [e]
  apply List.map_congr_left
  intro j _
  congr 1
  unfold ckG
  apply List.map_congr_left
  intro k _
  exact getD_zeros l _ _
theorem ck_left (a b : List UInt8) (j : Nat) (h : 16 * j + 16 ≤ a.length) : ckG (a ++ b) j = ckG a j := by
  unfold ckG
  apply List.map_congr_left
  intro k hk
  have hk : k < 16 := by simpa using hk
  rw [List.getD_eq_getElem?_getD, List.getD_eq_getElem?_getD, List.getElem?_append_left (by omega)]
theorem ck_right (a b : List UInt8) (q j : Nat) (h : a.length = 16 * q) : ckG (a ++ b) (q + j) = ckG b j := by
  unfold ckG
  apply List.map_congr_left
  intro k _
  rw [List.getD_eq_getElem?_getD, List.getD_eq_getElem?_getD, List.getElem?_append_right (by omega)]
  congr 2
  omega
theorem cks_append (a b : List UInt8) (h : a.length % 16 = 0) : cksG (a ++ b) = cksG a ++ cksG b := by
  obtain ⟨q, hq⟩ : ∃ q, a.length = 16 * q := ⟨a.length / 16, by omega⟩
  unfold cksG
  have e1 : ((a ++ b).length + 15) / 16 = q + (b.length + 15) / 16 := by rw [List.length_append]; omega
  have e2 : (a.length + 15) / 16 = q := by omega
  have h1 : (List.range q).map (fun j => bkG (ckG (a ++ b) j)) = (List.range q).map (fun j => bkG (ckG a j)) := by
    apply List.map_congr_left
    intro j hj
    have : j < q := by simpa using hj
    rw [ck_left a b j (by omega)]
  have h2 : (List.range ((b.length + 15) / 16)).map ((fun j => bkG (ckG (a ++ b) j)) ∘ fun x => q + x) = (List.range ((b.length + 15) / 16)).map (fun j => bkG (ckG b j)) := by
    apply List.map_congr_left
    intro j _
    show bkG (ckG (a ++ b) (q + j)) = _
    rw [ck_right a b q j hq]
  rw [e1, e2, List.range_add, List.map_append, List.map_map, h1, h2]
/-- A number as eight bytes. -/
def e8L (n : Nat) : List UInt8 := (List.range 8).map fun k => UInt8.ofNat (n / 256 ^ (7 - k) % 256)
theorem e8_len (n : Nat) : (e8L n).length = 8 := by simp [e8L]
theorem bl_ln (a b : Nat) (ha : a < 18446744073709551616) (hb : b < 18446744073709551616) : blG (lnW a b) = e8L a ++ e8L b := by
  apply List.ext_getElem?
  intro i
  by_cases hi : i < 16
  · rw [blG, List.getElem?_map, List.getElem?_range hi, Option.map_some, byG, lnW_nat, Nat.mod_eq_of_lt (by omega : a < 2 ^ 64), Nat.mod_eq_of_lt (by omega : b < 2 ^ 64)]
    have p256 : ∀ n : Nat, (256 : Nat) ^ n = 2 ^ (8 * n) := fun n => by rw [show (256 : Nat) = 2 ^ 8 from rfl, ← Nat.pow_mul]
    by_cases h8 : i < 8
    · rw [List.getElem?_append_left (by rw [e8_len]; exact h8), e8L, List.getElem?_map, List.getElem?_range h8, Option.map_some]
      congr 2
      have e : 8 * (15 - i) = 64 + 8 * (7 - i) := by omega
      rw [e, Nat.pow_add, ← Nat.div_div_eq_div_mul, p256]
      congr 2
      omega
    · rw [List.getElem?_append_right (by rw [e8_len]; omega), e8_len, e8L, List.getElem?_map, List.getElem?_range (by omega), Option.map_some]
      congr 2
      have e : 7 - (i - 8) = 15 - i := by omega
      rw [e, p256]
      have e2 : (64 : Nat) = 8 * (15 - i) + (64 - 8 * (15 - i)) := by omega
      have e3 : (2 : Nat) ^ 64 = 2 ^ (8 * (15 - i)) * 2 ^ (64 - 8 * (15 - i)) := by rw [← Nat.pow_add, ← e2]
      rw [e3, show a * (2 ^ (8 * (15 - i)) * 2 ^ (64 - 8 * (15 - i))) = 2 ^ (8 * (15 - i)) * (a * 2 ^ (64 - 8 * (15 - i))) by rw [← Nat.mul_assoc, Nat.mul_comm a, Nat.mul_assoc], Nat.mul_add_div (Nat.two_pow_pos _)]
      have e4 : 64 - 8 * (15 - i) = 8 + (64 - 8 * (15 - i) - 8) := by omega
      rw [e4, Nat.pow_add, ← Nat.mul_assoc, Nat.mul_comm a, Nat.mul_assoc, show (2 : Nat) ^ 8 = 256 from rfl, Nat.add_comm, Nat.add_mul_mod_self_left]
  · rw [List.getElem?_eq_none (by rw [bl_len]; omega), List.getElem?_eq_none (by rw [List.length_append, e8_len, e8_len]; omega)]
/-- All that a tag's hash is of. -/
def alL (l m : List UInt8) : List UInt8 := whL l ++ whL m ++ e8L (8 * l.length) ++ e8L (8 * m.length)
theorem cks_one (l : List UInt8) (h : l.length = 16) : cksG l = [bkG l] := by
  have e : ckG l 0 = l := by
    apply List.ext_getElem?
    intro i
    by_cases hi : i < 16
    · rw [ckG, List.getElem?_map, List.getElem?_range hi, Option.map_some, Nat.mul_zero, Nat.zero_add, List.getD_eq_getElem?_getD, List.getElem?_eq_getElem (by omega)]
      rfl
    · rw [List.getElem?_eq_none (by rw [ck_len]; omega), List.getElem?_eq_none (by omega)]
  unfold cksG
  rw [h, show (16 + 15) / 16 = 0 + 1 from rfl, List.range_succ, List.range_zero, List.nil_append, List.map_cons, List.map_nil, e]
theorem tag_ref (ks : List (List UInt8)) (nn l m : List UInt8) (hl : l.length ≤ 1048576) (hm : m.length ≤ 1048576) : tgL ks nn l m = xoG (hashL (seL ks (List.replicate 16 0)) (alL l m)) (stG ks nn 1) := by
  have e0 : bkG (hashL (seL ks (List.replicate 16 0)) (alL l m)) = tgW ks nn l m := by
    rw [← fdW_hash (seL_len _ _), fdW_fold, tgW_hash, hashG, alL, List.append_assoc (whL l ++ whL m), cks_append _ _ (by rw [List.length_append]; have := wh_mod l; have := wh_mod m; omega), cks_append _ _ (wh_mod l), cks_wh, cks_wh, cks_one (e8L (8 * l.length) ++ e8L (8 * m.length)) (by rw [List.length_append, e8_len, e8_len])]
    rw [← bl_ln _ _ (by omega) (by omega), bk_bl, List.append_assoc]
    rfl
  have e1 : blG (bkG (hashL (seL ks (List.replicate 16 0)) (alL l m))) = hashL (seL ks (List.replicate 16 0)) (alL l m) := bl_bk (hsN_len (seL_len _ _) _ _)
  rw [tgL, bl_xor, ← e0, e1, bl_bk (st_len _ _ _)]
theorem xo_len' (a b : List UInt8) (h : a.length = b.length) : (xoG a b).length = a.length := by simp [xoG, h]
end

section
open Go.RowKit
set_option linter.unusedVariables false

def btN (l : List UInt8) (i : Nat) : Nat := (l.getD (i / 8) 0).toNat / 2 ^ (7 - i % 8) % 2
theorem btN_one {l : List UInt8} {i : Nat} (h : btG l i = true) : btN l i = 1 := by
  unfold btG at h
  rw [Nat.testBit_eq_decide_div_mod_eq, decide_eq_true_eq] at h
  exact h
theorem btN_zero {l : List UInt8} {i : Nat} (h : btG l i = false) : btN l i = 0 := by
  unfold btG at h
  rw [Nat.testBit_eq_decide_div_mod_eq, decide_eq_false_iff_not] at h
  unfold btN
  omega

set_option maxRecDepth 100000 in
set_option maxHeartbeats 400000 in
theorem rbit_any (l : List UInt8) (A : Option Addr) (c i B : Nat) (w : World) (hl : l.length = 16) (hs : Sl w B A l) (hi : i < 128) :
    Calls Tryd.prog 140 #[.slice A 16 c, .int .i64 (i : Int)] w fun e w' => e = .returned (.int .i64 (btN l i : Int)) ∧ w = w' := by
  obtain ⟨b, off, rfl, hb, hc⟩ := Sl.at_ hs (by omega)
  obtain ⟨q, hq⟩ : ∃ q, q = i / 8 := ⟨_, rfl⟩
  obtain ⟨p, hp⟩ : ∃ p, p = i % 8 := ⟨_, rfl⟩
  have hqi : (i : Int) / 8 = (q : Int) := by omega
  have hpi : (i : Int) % 8 = (p : Int) := by omega
  have hx := hc q (l.getD q 0) (by rw [List.getD_eq_getElem?_getD, List.getElem?_eq_getElem (by omega)]; rfl)
  have hq16 : q < 16 := by omega
  have hp8 : p < 8 := by omega
  obtain ⟨x, hx0⟩ : ∃ x, x = l.getD q 0 := ⟨_, rfl⟩
  rw [← hx0] at hx
  have hx8 := x.toNat_lt
  have HF : Deep (x.toNat / 2 ^ (7 - p) % 2 = btN l i) := ⟨by rw [hx0, hq, hp]; rfl⟩
  clear hc hs hb hq hp hx0 hl
  go_enter Tryd.func140, Tryd.ntmps140
  go_wp2
  have HPI := Lib.hid hpi
  clear hx hqi hpi
  go_loop [5, 6] (fun c k => ∃ (j y : Nat), j ≤ 7 - p ∧ k = .int .i64 ((p + j : Nat) : Int) ∧ c = .int .i64 (y : Int) ∧ y < 256 ∧ Deep (y = x.toNat / 2 ^ j)) (fun _ k => 7 - (intOf k).toNat)
  case atStart => exact ⟨0, x.toNat, by omega, by rw [HPI.out]; rfl, rfl, by omega, ⟨by rw [Nat.pow_zero, Nat.div_one]⟩⟩
  case round =>
    obtain ⟨j, y, hj, rfl, rfl, hy, HY⟩ := hrel
    obtain ⟨k, hk⟩ : ∃ k, k = p + j := ⟨_, rfl⟩
    rw [← hk]
    by_cases hlt : k < 7
    · have HJ := Deep.mk hk
      have HY2 : Deep (y / 2 = x.toNat / 2 ^ (j + 1)) := ⟨by rw [HY.out, Nat.div_div_eq_div_mul, Nat.pow_succ]⟩
      have hj2 : j + 1 ≤ 7 - p := by omega
      clear hk HY
      go_wp2
      go_round
      case rel => exact ⟨j + 1, y / 2, hj2, by rw [← Nat.add_assoc, ← HJ.out]; rfl, rfl, by omega, HY2⟩
      case measure => simp [intOf]; omega
    · have hkd : decide ((k : Int) < 7) = false := by rw [decide_eq_false_iff_not]; omega
      have hjp : j = 7 - p := by omega
      have HE : Deep (y % 2 = btN l i) := ⟨by rw [HY.out, hjp]; exact HF.out⟩
      clear hk HY hjp hlt hj
      go_wp2
      go_ret
      exact ⟨by rw [← HE.out]; rfl, rfl⟩
end

section
open Go.RowKit

/-- Two texts added, behind k bytes. -/
def jnN (a b : List UInt8) : Nat → List UInt8
  | 0 => a
  | k + 1 => (jnN a b k).set k ((jnN a b k).getD k 0 ^^^ b.getD k 0)
theorem jnN_len (a b : List UInt8) (k : Nat) : (jnN a b k).length = a.length := by
  induction k with
  | zero => rfl
  | succ k ih => simp [jnN, ih]
theorem jnN_get (a b : List UInt8) (hl : a.length = b.length) (k : Nat) (hk : k ≤ a.length) (i : Nat) : (jnN a b k).getD i 0 = if i < k then a.getD i 0 ^^^ b.getD i 0 else a.getD i 0 := by
  induction k with
  | zero => simp [jnN]
  | succ k ih =>
    have h := ih (by omega)
    rw [jnN, List.getD_eq_getElem?_getD]
    by_cases hik : k = i
    · subst hik
      rw [List.getElem?_set_self (by rw [jnN_len]; omega), if_pos (by omega), Option.getD_some, h, if_neg (by omega)]
    · rw [List.getElem?_set_ne hik, ← List.getD_eq_getElem?_getD, h]
      by_cases h2 : i < k
      · rw [if_pos h2, if_pos (by omega)]
      · rw [if_neg h2, if_neg (by omega)]
theorem jn_all (a b : List UInt8) (hl : a.length = b.length) : jnN a b a.length = xoG a b := by
  apply List.ext_getElem (by rw [jnN_len]; simp [xoG]; omega)
  intro i h1 h2
  have h3 : i < a.length := by rw [jnN_len] at h1; exact h1
  have h := jnN_get a b hl a.length (Nat.le_refl _) i
  rw [if_pos h3, List.getD_eq_getElem?_getD, List.getElem?_eq_getElem h1, Option.getD_some] at h
  have h4 : (xoG a b)[i] = a[i] ^^^ b[i] := by unfold xoG; exact List.getElem_zipWith
  rw [h, h4, List.getD_eq_getElem?_getD, List.getElem?_eq_getElem h3, List.getD_eq_getElem?_getD, List.getElem?_eq_getElem (by omega)]
  rfl

/-- Own bytes at A, in a block from base on. -/
def ShG (w : World) (A : Option Addr) (base : Nat) (L : List UInt8) : Prop := L ≠ [] → ∃ g, A = some ⟨g, 0, none⟩ ∧ Pb w g 5 L ∧ base ≤ g
theorem ShG.sl {w : World} {A : Option Addr} {base : Nat} {L : List UInt8} (h : ShG w A base L) : Sl w w.heap.size A L := by
  intro hne
  obtain ⟨g, rfl, hp, _⟩ := h (by intro e; rw [e] at hne; simp at hne)
  exact hp.sl hne
end
end Go.Proofs.YtblclinfcdalaaaDoor
