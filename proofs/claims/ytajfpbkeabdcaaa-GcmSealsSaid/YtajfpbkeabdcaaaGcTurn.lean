/-
  gcm.stream.turn: a text turned.
-/
import Derived.Test.YtajfpbkeabdcaaaGcStr
import Derived.Test.YtajfpbkeabdcaaaOwn
namespace Go.Proofs.Ytajfpbkeabdcaaa
open Go.RowKit
set_option linter.unusedVariables false

/-- A text turned. -/
def tuL (ks : List (List UInt8)) (nn l : List UInt8) : List UInt8 := (List.range l.length).map fun i => l.getD i 0 ^^^ (stG ks nn (2 + i / 16)).getD (i % 16) 0
theorem tu_len (ks : List (List UInt8)) (nn l : List UInt8) : (tuL ks nn l).length = l.length := by simp [tuL]
theorem tu_at (ks : List (List UInt8)) (nn l : List UInt8) (j k : Nat) (hk : k < 16) (hl : 16 * j + k < l.length) : (tuL ks nn l)[16 * j + k]? = some ((l.drop (16 * j)).getD k 0 ^^^ (stG ks nn (2 + j)).getD k 0) := by
  rw [tuL, List.getElem?_map, List.getElem?_range hl, Option.map_some, show (16 * j + k) / 16 = j by omega, show (16 * j + k) % 16 = k by omega]
  congr 2
  rw [List.getD_eq_getElem?_getD, List.getD_eq_getElem?_getD, List.getElem?_drop]

theorem run_min16 (ts : Array TypeId) (t : TypeId) (n q : Nat) (w : World) (h : min n 16 = q) : (Builtin.min_ ts t #[.int .i64 (n : Int), .int .i64 16]).run Try.prog w = .ok (.int .i64 (q : Int)) w := by
  subst h
  by_cases h : 16 < n
  · have h2 : (16 : Int) < (n : Int) := by omega
    have h3 : ((min n 16 : Nat) : Int) = 16 := by omega
    rw [h3]
    simp [Builtin.min_, Builtin.min2, h2]
  · have h2 : ¬ (16 : Int) < (n : Int) := by omega
    have h3 : ((min n 16 : Nat) : Int) = (n : Int) := by omega
    rw [h3]
    simp [Builtin.min_, Builtin.min2, h2]

set_option maxRecDepth 100000 in
set_option maxHeartbeats 1000000 in
theorem turn_any (g : Nat) (ks : List (List UInt8)) (nn l : List UInt8) (A : Option Addr) (c base : Nat) (v : Value) (w : World) (hk : B11 ks) (hg : Wh w g 57 (aRow ks.flatten)) (hgb : g < base) (hn : nn.length = 12)
    (hs : Sl w base A l) (hlc : l.length ≤ c) (hcm : c ≤ maxLen) (hl : l.length ≤ 1048576) (hb : base ≤ w.heap.size) (hv : w.ownsRow base 5 1 v 0 []) :
    Calls Try.prog 18 #[.agg (sRow g nn), v, .slice A l.length c] w fun e w' => ∃ A' c', e = .returned (.slice A' l.length c') ∧ l.length ≤ c' ∧ c' ≤ maxLen ∧ w'.ownsRow base 5 1 (.slice A' l.length c') l.length ((tuL ks nn l).map cell8) ∧ Below base w w' := by
  obtain ⟨i0, hi0, hz0, hz1, hz2⟩ := info_parts info8
  obtain ⟨T, hT⟩ : ∃ T, T = tuL ks nn l := ⟨_, rfl⟩
  have HTL : Deep (T.length = l.length) := ⟨by rw [hT]; exact tu_len ks nn l⟩
  have HT := Deep.mk hT
  have HN := Deep.mk hn
  have HK := Deep.mk hk
  have HG := Lib.hid hg
  have hbe : Below w.heap.size w (w.alloc (.cells (sRow g nn) 44)) := (Below.refl _ _).alloc (Nat.le_refl _) _
  have HS := Lib.hid hs
  have HV0 := Lib.hid hv
  have HV := Lib.hid (hv.alloc (.cells (sRow g nn) 44))
  have HA := Lib.hid (Wh.new w 44 (sRow g nn))
  have HBE := Lib.hid (Below.refl base w)
  unfold maxLen at hcm
  clear hk hg hn hs hv hbe hT
  go_enter Try.func18, Try.ntmps18
  go_upto_region 1 with (fail)
  obtain ⟨a, ha⟩ : ∃ a, a = w.heap.size := ⟨_, rfl⟩
  rw [← ha] at HA ⊢
  have hba : base ≤ a := by omega
  have HOW : Hid (OwB base 5 w (w.alloc (.cells (sRow g nn) 44)) v []) := Lib.hid ⟨HV.out, HBE.out.alloc hb _, by simp; omega⟩
  have HKA : Hid (Kp (w.alloc (.cells (sRow g nn) 44)) v a 44 (sRow g nn)) := Lib.hid ⟨HA.out, fun e => by have := (HV0.out.lt a e).2; omega⟩
  clear HA HV HV0 HBE ha
  generalize w.alloc (.cells (sRow g nn) 44) = W at *
  go_wp2_with fail
  go_loopw [1, 2, 7, 8, 9, 10, 11, 25] (fun v s n _ _ _ _ _ wr => ∃ (j m : Nat) (r : List UInt8) (A' : Option Addr) (c' : Nat), Deep (r = l.drop (16 * j)) ∧ 16 * j < l.length + 16 ∧ s = .slice A' r.length c' ∧ r.length ≤ c' ∧ c' ≤ 9223372036854775807 ∧ n = .int .u32 (m : Int) ∧ m = 2 + j ∧ Hid (Sl w base A' r) ∧ Hid (OwB base 5 w wr v (T.take (16 * j))) ∧ Hid (Kp wr v a 44 (sRow g nn))) (fun _ s _ _ _ _ _ _ _ => lenV s)
  case atStart => exact ⟨0, 2, l, A, c, ⟨rfl⟩, by omega, rfl, hlc, hcm, rfl, rfl, HS, by rw [Nat.mul_zero, List.take_zero]; exact HOW, HKA⟩
  case round =>
    obtain ⟨j, m, r, A', c', HR, hj, rfl, hrc, hcm', rfl, hm, HSL, HO, HP⟩ := hrel
    clear HOW HKA HS
    by_cases hr0 : 0 < r.length
    · have hrl : r.length = l.length - 16 * j := by have e := congrArg List.length HR.out; rwa [List.length_drop] at e
      have hm32 : m < 65600 := by omega
      obtain ⟨x, hx⟩ : ∃ x, x = r.take 16 := ⟨_, rfl⟩
      obtain ⟨q, hq⟩ : ∃ q, q = x.length := ⟨_, rfl⟩
      have hq2 : q ≤ r.length ∧ q ≤ 16 ∧ 1 ≤ q ∧ (q = r.length ∨ q = 16) := by rw [hq, hx, List.length_take]; omega
      obtain ⟨hq3, hq4, hq5, hq6⟩ := hq2
      obtain ⟨b2, off2, rfl, hb2, hcell2⟩ := Sl.at_ HSL.out hr0
      obtain ⟨Q, hQ⟩ : ∃ Q, Q = stG ks nn m := ⟨_, rfl⟩
      have hQl : Q.length = 16 := by rw [hQ]; exact st_len _ _ _
      have HQ := Deep.mk hQ
      have HQL := Deep.mk hQl
      have HM := Deep.mk hm
      have HX := Deep.mk hx
      have HQQ := Deep.mk hq
      have HQ6 := Deep.mk hq6
      have HRL := Deep.mk hrl
      have HC2 := Deep.mk hcell2
      have hgw : Wh wr g 57 (aRow ks.flatten) := HG.out.below HO.out.2.1 hgb
      have hst := fun w' hg' => stblock_any g ks nn m w' HK.out hg' HN.out (by omega)
      rw [← hQ] at hst
      have HST := Lib.hid hst
      have HGW := Lib.hid hgw
      clear hQ hQl hm hx hq hq6 hrl hcell2 hst hgw
      go_wp2_with (first
        | (refine wpList_load_row rfl 44 (.tmp 3) rfl a rfl _ (sRow g nn) _ _ HP.out.1 Try.underlying44 rfl (info_sRow HN.out) ?_))
      refine (HST.out _ HGW.out).mono ?_
      rintro e w3 ⟨rfl, hb3⟩
      have HO3 := Lib.hid (HO.out.below hb3)
      have HP3 := Lib.hid (HP.out.below hb3)
      clear hb3 HO HP
      go_upto_region 4 with (first
        | (refine wpList_store_row rfl 22 (.tmp 8) (.tmp 17) rfl w3.heap.size (aRow Q) rfl rfl _ _ (heap_alloc_new w3 _) (info_aRow HQL.out) (by rw [aRow_size, HQL.out]; rfl) (aRow_one _) ?_; rw [World.setRow_alloc_new]))
      obtain ⟨b, hb⟩ : ∃ b, b = w3.heap.size := ⟨_, rfl⟩
      have h4 := Wh.new w3 22 (aRow Q)
      have hk4 : Kp (w3.alloc (.cells (aRow Q) 22)) u1 b 22 (aRow Q) := ⟨by rw [hb]; exact h4, HO3.out.new (by omega)⟩
      have hbl : Below w3.heap.size w3 (w3.alloc (.cells (aRow Q) 22)) := (Below.refl _ _).alloc (Nat.le_refl _) _
      have HO4 := Lib.hid (HO3.out.below hbl)
      have HP4 := Lib.hid (HP3.out.below hbl)
      have HB4 := Lib.hid hk4
      rw [← hb]
      clear hb h4 hk4 hbl HO3 HP3
      generalize w3.alloc (.cells (aRow Q) 22) = w4 at *
      have hmin := fun w' => run_min16 #[3, 3] 3 r.length q w' (by have := HQ6.out; omega)
      go_wp2_with fail
      clear hmin
      have HJ16 := Lib.hid hj
      go_loopw [1, 10, 11, 25] (fun v _ _ i wr => ∃ k : Nat, k ≤ q ∧ i = .int .i64 (k : Int) ∧ Hid (OwB base 5 w wr v (T.take (16 * j + k))) ∧ Hid (Kp wr v a 44 (sRow g nn)) ∧ Hid (Kp wr v b 22 (aRow Q))) (fun _ _ _ i _ => q - (intOf i).toNat)
      case atStart => exact ⟨0, by omega, rfl, HO4, HP4, HB4⟩
      case round =>
        obtain ⟨k, hkq, rfl, HO, HP, HB⟩ := hrel
        clear HO4 HP4 HB4
        by_cases hlt : k < q
        · have hkr : k < r.length := by omega
          have hx0 : r[k]? = some (r.getD k 0) := by simp [List.getD, hkr]
          have hc1 := (HO.out.2.1.cell (p := ⟨b2, off2 + k, none⟩) hb2).trans (HC2.out k _ hx0)
          have hc2 := (HB.out.1.cell k).trans (aRow_at (by rw [HQL.out]; omega))
          have ht := tu_at ks nn l j k (by omega) (by have := HRL.out; omega)
          rw [← HT.out, ← HR.out, ← HM.out, ← HQ.out] at ht
          generalize r.getD k 0 = x0 at *
          generalize Q.getD k 0 = y0 at *
          obtain ⟨d, hd⟩ : ∃ d, d = T.take (16 * j + k) := ⟨_, rfl⟩
          have hdl : d.length ≤ 1048576 := by rw [hd, List.length_take, HTL.out]; omega
          have hnx : Deep (T.take (16 * j + (k + 1)) = d ++ [x0 ^^^ y0]) := ⟨by rw [hd, ← Nat.add_assoc, List.take_add_one, ht]; rfl⟩
          rw [← hd] at HO
          have hx8 := x0.toNat_lt
          have hy8 := y0.toNat_lt
          have hown := HO.out.1
          have hbz := HO.out.2.2
          have k16 : (k : Int) < 16 := by omega
          have hrc2 : q ≤ c' := by omega
          clear hx0 ht hd hkr
          go_wp2_with (first
            | (at_builtin; refine wpList_append_sv _ rfl (.tmp 30) (.tmp 36) _ rfl base 5 i0 _ 1 Try.underlying24 hi0 hz0 hz1 hz2 rfl u1 _ _ rfl (hown.alloc _) _ _ 1 1 _ rfl (sv_new _ _ _) rfl (fun u hu => by simp at hu; subst hu; rfl) (by unfold maxLen; omega) (by omega) (by simp; omega) ?_; intro v2 w2 hown2 hg2 hat2; rw [b_xor] at hown2 hg2 hat2; have HO2 := Lib.hid (HO.out.more (x0 ^^^ y0) _ hown2 hg2); have HP2 := Lib.hid (HP.out.more _ hg2 hat2); have HB2 := Lib.hid (HB.out.more _ hg2 hat2); clear hg2 hat2 hown2))
          exact ⟨⟨k + 1, by omega, by go_num, by rw [hnx.out]; exact HO2, HP2, HB2⟩, by simp [intOf]; omega⟩
        · have hkd : decide (k < q) = false := by rw [decide_eq_false_iff_not]; omega
          have hkq2 : k = q := by omega
          have HR' : Deep (r.drop q = l.drop (16 * (j + 1))) := ⟨by
            have e : r.drop q = r.drop 16 := by
              rcases HQ6.out with e | e
              · rw [List.drop_eq_nil_of_le (by omega), List.drop_eq_nil_of_le (by omega)]
              · rw [e]
            rw [e, HR.out, List.drop_drop]
            congr 1⟩
          have hj' : 16 * (j + 1) < l.length + 16 := by have := HRL.out; omega
          have hm' : m + 1 = 2 + (j + 1) := by have := HM.out; omega
          have HTE : Deep (T.take (16 * j + k) = T.take (16 * (j + 1))) := ⟨by
            rcases HQ6.out with e | e
            · have := HRL.out
              rw [List.take_of_length_le (by rw [HTL.out]; omega), List.take_of_length_le (by rw [HTL.out]; omega)]
            · rw [hkq2, e]
              congr 1⟩
          have HO2 : Hid (OwB base 5 w wr u1 (T.take (16 * (j + 1)))) := by rw [← HTE.out]; exact HO
          have HSC : Hid (Sl w base (some ⟨b2, off2 + q, none⟩) (r.drop q)) := by
            have h := Sv.drop HSL.out q
            rw [← List.map_drop] at h
            exact Lib.hid h
          have HDL : Hid ((r.drop q).length = r.length - q) := Lib.hid List.length_drop
          have HM' := Lib.hid hm'
          have HJ' := Lib.hid hj'
          clear HO hkq hkq2 hlt hm' hj' hb2 hj HB
          by_cases hcq : c' = q
          all_goals
            go_wp2
            first
              | (refine ⟨⟨j + 1, m + 1, r.drop q, some ⟨b2, off2 + q, none⟩, c' - q, HR', HJ'.out, ?_, ?_, ?_, rfl, HM'.out, HSC, HO2, HP⟩, ?_⟩; (rw [HDL.out]); (rw [HDL.out]; omega); omega; (simp only [lenV]; omega))
              | (refine ⟨⟨j + 1, m + 1, r.drop q, some ⟨b2, off2, none⟩, 0, HR', HJ'.out, ?_, ?_, ?_, rfl, HM'.out, ?_, HO2, HP⟩, ?_⟩; (rw [HDL.out]); (rw [HDL.out]; omega); omega; (rw [List.drop_eq_nil_of_le (by omega)]; exact Sv.nil _ _ _); (simp only [lenV]; omega))
    · obtain rfl : r = [] := List.eq_nil_of_length_eq_zero (by omega)
      have hl0 : l.length ≤ 16 * j := by
        have e := congrArg List.length HR.out
        rw [List.length_drop, List.length_nil] at e
        omega
      have HOT : Hid (OwB base 5 w wr u1 T) := by
        have h := HO.out
        rw [List.take_of_length_le (by rw [HTL.out]; exact hl0)] at h
        exact Lib.hid h
      obtain ⟨B, cB, hB, hB1, hB2⟩ := own_form HOT.out.1
      rw [hB] at HOT ⊢
      have HB1 := Lib.hid hB1
      have HB2 := Lib.hid hB2
      clear HO HR hr0 hl0 hB hB1 hB2 HP
      go_wp2
      go_ret
      have ho := HOT.out.1
      rw [HTL.out] at ho
      rw [HT.out] at ho
      exact ⟨B, cB, by rw [HTL.out]; rfl, by rw [← HTL.out]; exact HB1.out, HB2.out, ho, HOT.out.2.1⟩
end Go.Proofs.Ytajfpbkeabdcaaa
