/-
  The walk through hostlerref11.Make: made by tools/gen_spmake.py.
-/
import Derived.Test.YtkmnhlcjeebejaaSpMakeM
namespace Go.Proofs.Ytkmnhlcjeebejaa
open Go.RowKit
set_option linter.unusedVariables false

/-- The state at the head of a round. -/
def MkAt (E : List Nat) (W : Nat → Bool) (out : List (Nat × Nat)) (k : Nat) : Prop := (∀ x, E[k]? = some x → MadeTo W out x) ∧ (E = [] → out = []) ∧ out.length ≤ k

set_option maxRecDepth 10000 in
set_option maxHeartbeats 8000000 in
theorem make_any (kind : Int) (hkd : kind = 0 ∨ kind = 1 ∨ kind = 2) (A1 A2 : Option Addr) (n1 c1 n2 c2 : Nat) (a b : List (Nat × Nat)) (w : World) (ha : a.length = n1) (hb : b.length = n2) (hl1 : n1 ≤ 10000) (hl2 : n2 ≤ 10000) (hr1 : Rs w w.heap.size A1 a) (hr2 : Rs w w.heap.size A2 b) (hf1 : FitL a) (hf2 : FitL b) :
    Calls Try.prog 16 #[.int .i64 kind, .slice A1 n1 c1, .slice A2 n2 c2] w (Makes 40000 (fun n => selB kind (inB a n) (inB b n)) w) := by
  have HEN := Lib.hid (ends2_any A1 A2 n1 c1 n2 c2 a b w ha hb hl1 hl2 hr1 hr2)
  have HA := Lib.hid ha
  have HB := Lib.hid hb
  have HR1 := Lib.hid hr1
  have HR2 := Lib.hid hr2
  have HF1 := Lib.hid hf1
  have HF2 := Lib.hid hf2
  have HKD := Lib.hid hkd
  clear ha hb hr1 hr2 hf1 hf2 hkd
  obtain ⟨W, hW⟩ : ∃ W, W = fun n => selB kind (inB a n) (inB b n) := ⟨_, rfl⟩
  rw [← hW]
  have HW := Lib.hid hW
  clear hW
  go_enter Try.func16, Try.ntmps16
  go_wp2_with fail
  refine HEN.out.mono ?_
  rintro e w1 ⟨v, rfl, ⟨A, c, E, rfl, hc, hcm, hs, hp, hmem, hlm⟩, hb1⟩
  clear HEN
  obtain ⟨len, hlen⟩ : ∃ len, len = E.length := ⟨_, rfl⟩
  rw [← hlen] at hc hlm ⊢
  have HLEN := Lib.hid hlen
  have HEO : Hid (EndsOf a b E) := Lib.hid ⟨hp, hmem⟩
  have HS := Lib.hid hs
  have HB1 := Lib.hid hb1
  have hb1s := hb1.size
  unfold maxLen at hcm
  clear hlen hp hmem hs hb1
  have HST : Hid (MkAt E W [] 0) := Lib.hid ⟨fun x hx => by rw [HW.out]; exact made_start HEO.out kind hx, fun _ => rfl, Nat.le_refl _⟩
  go_wp2
  go_loopw [8, 9] (fun s8 s9 wr => ∃ (v : Value) (k : Nat) (out : List (Nat × Nat)), s8 = v ∧ s9 = .int .i64 k ∧ (k + 1 ≤ len ∨ len = 0 ∧ k = 0) ∧ Hid (MkAt E W out k) ∧ Hid (OwR w1.heap.size wr v out) ∧ Hid (Below w1.heap.size w1 wr)) (fun _ s9 _ => len - (intOf s9).toNat)
  case atStart => exact ⟨_, 0, [], rfl, rfl, by omega, HST, Lib.hid (OwR.nil _ _), Lib.hid (Below.refl _ _)⟩
  case round =>
    obtain ⟨v, k, out, rfl, rfl, hk, hmk, how, hbw⟩ := hrel
    clear HST
    have hwi : IntKind.i64.wrap ((k : Int) + 1) = (k : Int) + 1 := IntWalk.i64_in _ (by omega)
    have hnn : 0 ≤ (k : Int) + 1 := by omega
    have htn : ((k : Int) + 1).toNat = k + 1 := by omega
    by_cases hlt : k + 1 < len
    · obtain ⟨x, hx⟩ : ∃ x, E[k]? = some x := ⟨_, List.getElem?_eq_getElem (by rw [← HLEN.out]; omega)⟩
      obtain ⟨y, hy⟩ : ∃ y, E[k + 1]? = some y := ⟨_, List.getElem?_eq_getElem (by rw [← HLEN.out]; omega)⟩
      obtain ⟨g, off, rfl, hg, hcc⟩ := HS.out.at_ (by rw [List.length_map, ← HLEN.out]; omega)
      have hx0 : w1.cell? ⟨g, off + k, none⟩ = some (.int .u64 (x : Int)) := hcc k (cell64 x) (by rw [List.getElem?_map, hx]; rfl)
      have hy0 : w1.cell? ⟨g, off + (k + 1), none⟩ = some (.int .u64 (y : Int)) := hcc (k + 1) (cell64 y) (by rw [List.getElem?_map, hy]; rfl)
      have hx1 : wr.cell? ⟨g, off + k, none⟩ = some (.int .u64 (x : Int)) := (hbw.out.cell (p := ⟨g, off + k, none⟩) hg).trans hx0
      have hy1 : wr.cell? ⟨g, off + (k + 1), none⟩ = some (.int .u64 (y : Int)) := (hbw.out.cell (p := ⟨g, off + (k + 1), none⟩) hg).trans hy0
      have hgr : g < wr.heap.size := Nat.lt_of_lt_of_le hg hbw.out.size
      have hbase : w1.heap.size ≤ wr.heap.size := hbw.out.size
      have HMT := Lib.hid (hmk.out.1 x hx)
      have HCN := Lib.hid (made_const HEO.out kind hx hy)
      have hol : out.length ≤ k := hmk.out.2.2
      have HNX : Hid (∀ out', MadeTo W out' y → out'.length ≤ k + 1 → MkAt E W out' (k + 1)) := Lib.hid fun out' h h2 => ⟨fun z hz => by rw [hy] at hz; obtain rfl := Option.some.inj hz; exact h, fun e => by rw [e] at hx; simp at hx, h2⟩
      have hI1 := fun n => in_any A1 n1 c1 x w.heap.size a (wr.drewN n) HA.out (by omega) ((HR1.out.below (HB1.out.trans (hbw.out.mono hb1s))).below (below_drewN (Below.refl _ _) n |>.mono (Nat.le_trans hb1s hbase)))
      have hI2 := fun n => in_any A2 n2 c2 x w.heap.size b (wr.drewN n) HB.out (by omega) ((HR2.out.below (HB1.out.trans (hbw.out.mono hb1s))).below (below_drewN (Below.refl _ _) n |>.mono (Nat.le_trans hb1s hbase)))
      obtain ⟨xb, hxb⟩ : ∃ xb, xb = inB a x := ⟨_, rfl⟩
      obtain ⟨yb, hyb⟩ : ∃ yb, yb = inB b x := ⟨_, rfl⟩
      rw [← hxb] at hI1
      rw [← hyb] at hI2
      have HI1 := Lib.hid (fun n => (hI1 n).mono fun e w' h => (⟨h.1, h.2.symm⟩ : e = .returned (.bool xb) ∧ w' = wr.drewN n))
      have HI2 := Lib.hid (fun n => (hI2 n).mono fun e w' h => (⟨h.1, h.2.symm⟩ : e = .returned (.bool yb) ∧ w' = wr.drewN n))
      have HWX : Hid (W x = selB kind xb yb) := Lib.hid (by rw [HW.out, hxb, hyb])
      have HCW : Hid (x < y ∧ ∀ n, x ≤ n → n < y → W n = W x) := Lib.hid (by rw [HW.out]; exact HCN.out)
      have hki : (k : Int) < (len : Int) := by omega
      have hki1 : (k : Int) + 1 < (len : Int) := by omega
      have hkl : k < len := by omega
      have hni : ¬ ((len : Int) ≤ (k : Int) + 1) := by omega
      have hoc : out.length ≤ 40000 := by omega
      clear hcc hx hy hI1 hI2 hxb hyb hmk HCN
      go_wp2
      go_quiet ((first | (go_at_call_of 21 (Value.slice A1 n1 c1); exact Calls.quiet_of_same (HI1.out _)) | (go_at_call_of 21 (Value.slice A2 n2 c2); exact Calls.quiet_of_same (HI2.out _))))
      have hb0 := below_drewN (Below.refl wr.heap.size wr) nq
      have hx2 := (hb0.cell (p := ⟨g, off + k, none⟩) hgr).trans hx1
      have hy2 := (hb0.cell (p := ⟨g, off + (k + 1), none⟩) hgr).trans hy1
      have HO1 := Lib.hid (how.out.below hb0)
      have HB2 := Lib.hid (hbw.out.trans (hb0.mono hbase))
      have hbase2 : w1.heap.size ≤ (wr.drewN nq).heap.size := Nat.le_trans hbase hb0.size
      clear hx1 hy1 hb0 how hbw HI1 HI2 hgr hbase
      generalize wr.drewN nq = wd at *
      have hgr : g < wd.heap.size := Nat.lt_of_lt_of_le hg hbase2
      rcases HKD.out with hkd | hkd | hkd
      · have hq1 : (kind == 1) = false := by rw [hkd]; rfl
        have hq2 : (kind == 2) = false := by rw [hkd]; rfl
        have HKK := Lib.hid hkd
        clear hkd
        cases xb <;> cases yb
        · obtain ⟨A9, c9, rfl, _, _⟩ := HO1.out.form
          go_wp2
          go_quiet (fail)
          have HO2 := Lib.hid (HO1.out.below (below_drewN (Below.refl _ _) nq))
          have HB3 := Lib.hid (below_drewN HB2.out nq)
          go_wp2
          go_roundw
          case rel => exact ⟨_, k + 1, out, rfl, by go_num, by omega, Lib.hid (HNX.out out (HMT.out.skip HCW.out.1 HCW.out.2 (by rw [HWX.out, HKK.out]; rfl)) (by omega)), HO2, HB3⟩
          case measure => simp [intOf]; omega
        · rcases List.eq_nil_or_concat out with rfl | ⟨o, z, rfl⟩
          · obtain ⟨A9, c9, rfl, _, _⟩ := HO1.out.form
            simp only [List.length_nil] at *
            go_wp2
            go_quiet (fail)
            have hd0 := below_drewN (Below.refl wd.heap.size wd) nq
            have HO2 := Lib.hid (HO1.out.below hd0)
            have HB3 := Lib.hid (below_drewN HB2.out nq)
            have hx3 := (hd0.cell (p := ⟨g, off + k, none⟩) hgr).trans hx2
            have hy3 := (hd0.cell (p := ⟨g, off + (k + 1), none⟩) hgr).trans hy2
            have hbase3 : w1.heap.size ≤ (wd.drewN nq).heap.size := Nat.le_trans hbase2 hd0.size
            clear hx2 hy2 hgr hd0 HO1 HB2 hbase2
            generalize wd.drewN nq = we at *
            go_wp2
            have hG : Below w1.heap.size w1 we.drew := HB3.out.drew
            refine wp_region_held_drew (S := fun w' => Below w1.heap.size w1 w') (by kernel_rfl) hG (fun _ => ?_)
            refine wpAnyH_take (i := 0) (v := .slice A9 0 c9) (List.getElem?_toArray.trans rfl) (by kernel_rfl) (by kernel_rfl) (by kernel_rfl) (fun _ _ _ h => h) (.inl ⟨rfl, fun w' hS => rfl⟩) hG ?_
            refine act_normS (by simp only [Act.put, List.setIfInBounds_toArray, List.set_cons_zero, List.set_cons_succ]; rfl) ?_
            refine wpAnyH_take (i := 1) (v := .slice (some ⟨g, off, none⟩) len c) (List.getElem?_toArray.trans rfl) (by kernel_rfl) (by kernel_rfl) (by kernel_rfl) (fun _ _ _ h => h) (.inl ⟨rfl, fun w' hS => rfl⟩) hG ?_
            refine act_normS (by simp only [Act.put, List.setIfInBounds_toArray, List.set_cons_zero, List.set_cons_succ]; rfl) ?_
            refine wpAnyH_take (i := 2) (v := .int .i64 (k : Int)) (List.getElem?_toArray.trans rfl) (by kernel_rfl) (by kernel_rfl) (by kernel_rfl) (fun _ _ _ h => h) (.inl ⟨rfl, fun w' hS => rfl⟩) hG ?_
            refine act_normS (by simp only [Act.put, List.setIfInBounds_toArray, List.set_cons_zero, List.set_cons_succ]; rfl) ?_
            refine wpAnyH_take (i := 3) (v := .pointer (some ⟨g, off + k, none⟩)) (List.getElem?_toArray.trans rfl) (by kernel_rfl) (by kernel_rfl) (by kernel_rfl) (fun _ _ _ h => h) (.inl ⟨rfl, fun w' hS => by simp [go_sem, hkl]⟩) hG ?_
            refine act_normS (by simp only [Act.put, List.setIfInBounds_toArray, List.set_cons_zero, List.set_cons_succ]; rfl) ?_
            refine wpAnyH_take (i := 4) (v := .int .u64 (x : Int)) (List.getElem?_toArray.trans rfl) (by kernel_rfl) (by kernel_rfl) (by kernel_rfl) (fun _ _ _ h => h) (.inl ⟨rfl, fun w' hS => by have hc := (hS.cell (p := ⟨g, off + k, none⟩) hg).trans hx0; simp [go_sem, hc]⟩) hG ?_
            refine act_normS (by simp only [Act.put, List.setIfInBounds_toArray, List.set_cons_zero, List.set_cons_succ]; rfl) ?_
            refine wpAnyH_take (i := 5) (v := .slice (some ⟨g, off, none⟩) len c) (List.getElem?_toArray.trans rfl) (by kernel_rfl) (by kernel_rfl) (by kernel_rfl) (fun _ _ _ h => h) (.inl ⟨rfl, fun w' hS => rfl⟩) hG ?_
            refine act_normS (by simp only [Act.put, List.setIfInBounds_toArray, List.set_cons_zero, List.set_cons_succ]; rfl) ?_
            refine wpAnyH_take (i := 6) (v := .int .i64 (k : Int)) (List.getElem?_toArray.trans rfl) (by kernel_rfl) (by kernel_rfl) (by kernel_rfl) (fun _ _ _ h => h) (.inl ⟨rfl, fun w' hS => rfl⟩) hG ?_
            refine act_normS (by simp only [Act.put, List.setIfInBounds_toArray, List.set_cons_zero, List.set_cons_succ]; rfl) ?_
            refine wpAnyH_take (i := 7) (v := .int .i64 ((k : Int) + 1)) (List.getElem?_toArray.trans rfl) (by kernel_rfl) (by kernel_rfl) (by kernel_rfl) (fun _ _ _ h => h) (.inl ⟨rfl, fun w' hS => by simp [go_sem, hwi]⟩) hG ?_
            refine act_normS (by simp only [Act.put, List.setIfInBounds_toArray, List.set_cons_zero, List.set_cons_succ]; rfl) ?_
            refine wpAnyH_take (i := 8) (v := .pointer (some ⟨g, off + (k + 1), none⟩)) (List.getElem?_toArray.trans rfl) (by kernel_rfl) (by kernel_rfl) (by kernel_rfl) (fun _ _ _ h => h) (.inl ⟨rfl, fun w' hS => by simp [go_sem, htn, hnn, hni]⟩) hG ?_
            refine act_normS (by simp only [Act.put, List.setIfInBounds_toArray, List.set_cons_zero, List.set_cons_succ]; rfl) ?_
            refine wpAnyH_take (i := 9) (v := .int .u64 (y : Int)) (List.getElem?_toArray.trans rfl) (by kernel_rfl) (by kernel_rfl) (by kernel_rfl) (fun _ _ _ h => h) (.inl ⟨rfl, fun w' hS => by have hc := (hS.cell (p := ⟨g, off + (k + 1), none⟩) hg).trans hy0; simp [go_sem, hc]⟩) hG ?_
            refine act_normS (by simp only [Act.put, List.setIfInBounds_toArray, List.set_cons_zero, List.set_cons_succ]; rfl) ?_
            refine wpAnyH_take (i := 10) (v := .agg #[.int .u64 (x : Int), .int .u64 (y : Int)]) (List.getElem?_toArray.trans rfl) (by kernel_rfl) (by kernel_rfl) (by kernel_rfl) (fun _ _ _ h => h) (.inl ⟨rfl, fun w' hS => by simp [go_sem]⟩) hG ?_
            refine act_normS (by simp only [Act.put, List.setIfInBounds_toArray, List.set_cons_zero, List.set_cons_succ]; rfl) ?_
            refine wpAnyH_ready (rs := [11]) (by kernel_rfl) (by simp) (AllReadyH.cons (List.getElem?_toArray.trans rfl) (fun K' hK => ?_) AllReadyH.nil)
            refine wanted_goS rfl ?_
            go_simp
            have hbl : Below we.heap.size we (we.drew.alloc (.cells #[.int .u64 (x : Int), .int .u64 (y : Int)] 37)) := (Below.refl we.heap.size we).drew.alloc (Nat.le_refl _) _
            have hrl : Rs (we.drew.alloc (.cells #[.int .u64 (x : Int), .int .u64 (y : Int)] 37)) (we.heap.size + 1) (some ⟨we.heap.size, 0, none⟩) [(x, y)] := rs_new_at we.drew (x, y) _ rfl
            have hol2 := HO2.out.below hbl
            have hbl2 : Below w1.heap.size w1 (we.drew.alloc (.cells #[.int .u64 (x : Int), .int .u64 (y : Int)] 37)) := HB3.out.trans (hbl.mono hbase3)
            refine hK.out _ _ (hbl2) (fun _ => ?_)
            clear hK K'
            refine wpAnyH_ready (rs := [12]) (by kernel_rfl) (by simp) (AllReadyH.cons (List.getElem?_toArray.trans rfl) (fun K' hK => ?_) AllReadyH.nil)
            refine step_app_rg rfl (.tmp 84) (.tmp 95) rfl w1.heap.size (.slice A9 0 c9) [] rfl hol2 _ (some ⟨we.heap.size, 0, none⟩) 1 1 [(x, y)] rfl hrl rfl (by simp) hbl2.size ?_
            intro v5 w5 ho5 hg5 _
            have hb5 : Below w1.heap.size w1 w5 := hbl2.grown hg5 hbl2.size (fun q hq => (hol2.ge hq).1)
            refine hK.out _ _ (hb5) (fun _ => ?_)
            clear hK K'
            refine wpAnyH_take (i := 13) (v := v5) (List.getElem?_toArray.trans rfl) (by kernel_rfl) (by kernel_rfl) (by kernel_rfl) (fun _ _ _ h => h) (.inl ⟨rfl, fun w' hS => rfl⟩) hb5 ?_
            refine act_normS (by simp only [Act.put, List.setIfInBounds_toArray, List.set_cons_zero, List.set_cons_succ]; rfl) ?_
            refine wpAnyH_done (by kernel_rfl) ?_ _
            have HO5 := Lib.hid ho5
            have HB5 := Lib.hid hb5
            clear hG hbl hrl hol2 hbl2 ho5 hg5 hb5
            go_wp2
            go_roundw
            case rel => exact ⟨_, k + 1, [] ++ [(x, y)], rfl, by go_num, by omega, Lib.hid (HNX.out _ (HMT.out.anew HCW.out.1 HCW.out.2 (by rw [HWX.out, HKK.out]; rfl) (fun o z e => by simp at e)) (by simp)), HO5, HB5⟩
            case measure => simp [intOf]; omega
          · rw [List.concat_eq_append] at *
            obtain ⟨m, hmi⟩ : ∃ m, m = o.length := ⟨_, rfl⟩
            have hm : (o ++ [z]).length = m + 1 := by simp [hmi]
            have hm2 : m < k := by omega
            have d0 : decide ((m : Int) < 0) = false := decide_eq_false (by omega)
            have d3 : (m : Int) < (m : Int) + 1 := by omega
            have d4 : decide ((m : Int) + 1 > 0) = true := decide_eq_true (by omega)
            obtain ⟨gn, cn, cur, hvn, hgn, hnc, hcn, hwn, hsz', _⟩ := ownR_some HO1.out (by omega)
            have hv7 := hvn
            rw [hm] at hnc hv7
            subst hv7
            have hz0 : (o ++ [z])[m]? = some z := by simp [hmi]
            have hzc := (RowAt.cell (n := (o ++ [z]).length) (by unfold RowAt; rw [← hvn]; exact HO1.out) hz0).2
            have hfz := hwn.frozen (m * 2 + 1)
            have hgl := hwn.lt
            have hum : IntKind.i64.wrap (((m : Int) + 1) - 1) = (m : Int) := by rw [show ((m : Int) + 1) - 1 = (m : Int) by omega]; exact IntWalk.i64_in _ (by omega)
            unfold maxLen at hcn
            have HMI := Lib.hid hmi
            have HM1 := Lib.hid hm
            clear hwn hz0 hsz' hmi hm hvn
            by_cases hzx : z.2 = x
            · have t5 : ((z.2 : Int) == (x : Int)) = true := by rw [beq_iff_eq]; omega
              have HZX := Lib.hid hzx
              clear hzx
              go_wp2
              go_quiet (fail)
              have hd0 := below_drewN (Below.refl wd.heap.size wd) nq
              have HO2 := Lib.hid (HO1.out.below hd0)
              have HB3 := Lib.hid (below_drewN HB2.out nq)
              have hx3 := (hd0.cell (p := ⟨g, off + k, none⟩) hgr).trans hx2
              have hy3 := (hd0.cell (p := ⟨g, off + (k + 1), none⟩) hgr).trans hy2
              have hbase3 : w1.heap.size ≤ (wd.drewN nq).heap.size := Nat.le_trans hbase2 hd0.size
              have hz3 := (hd0.cell (p := ⟨gn, m * 2 + 1, none⟩) hgl).trans hzc
              have hf3 := (hd0.frozen (p := ⟨gn, m * 2 + 1, none⟩) hgl).trans hfz
              clear hx2 hy2 hgr hd0 HO1 HB2 hbase2 hzc hfz hgl
              generalize wd.drewN nq = we at *
              go_wp2
              go_roundw
              case rel =>
                have h1 := HO2.out
                unfold OwR at h1
                rw [HM1.out] at h1
                have h2 := ownR_set h1 m z y (by rw [HMI.out]; simp)
                have h3 : (o ++ [z]).set m (z.1, y) = o ++ [(z.1, y)] := by rw [HMI.out]; simp
                rw [h3] at h2
                refine ⟨_, k + 1, o ++ [(z.1, y)], rfl, by go_num, by omega, Lib.hid (HNX.out _ (HMT.out.longer HCW.out.1 HCW.out.2 (by rw [HWX.out, HKK.out]; rfl) HZX.out) (by simp [← HMI.out]; omega)), Lib.hid ?_, Lib.hid (HB3.out.grown (grown_set _ _ _ _) HB3.out.size (fun q hq => by have := Option.some.inj hq; omega))⟩
                unfold OwR
                rw [show (o ++ [(z.1, y)]).length = m + 1 by simp [HMI.out]]
                exact h2
              case measure => simp [intOf]; omega
            · have t5 : ((z.2 : Int) == (x : Int)) = false := by rw [beq_eq_false_iff_ne]; omega
              have HZX := Lib.hid hzx
              clear hzx
              go_wp2
              go_quiet (fail)
              have hd0 := below_drewN (Below.refl wd.heap.size wd) nq
              have HO2 := Lib.hid (HO1.out.below hd0)
              have HB3 := Lib.hid (below_drewN HB2.out nq)
              have hx3 := (hd0.cell (p := ⟨g, off + k, none⟩) hgr).trans hx2
              have hy3 := (hd0.cell (p := ⟨g, off + (k + 1), none⟩) hgr).trans hy2
              have hbase3 : w1.heap.size ≤ (wd.drewN nq).heap.size := Nat.le_trans hbase2 hd0.size
              clear hx2 hy2 hgr hd0 HO1 HB2 hbase2
              generalize wd.drewN nq = we at *
              go_wp2
              have hG : Below w1.heap.size w1 we.drew := HB3.out.drew
              refine wp_region_held_drew (S := fun w' => Below w1.heap.size w1 w') (by kernel_rfl) hG (fun _ => ?_)
              refine wpAnyH_take (i := 0) (v := .slice (some ⟨gn, 0, none⟩) (m + 1) cn) (List.getElem?_toArray.trans rfl) (by kernel_rfl) (by kernel_rfl) (by kernel_rfl) (fun _ _ _ h => h) (.inl ⟨rfl, fun w' hS => rfl⟩) hG ?_
              refine act_normS (by simp only [Act.put, List.setIfInBounds_toArray, List.set_cons_zero, List.set_cons_succ]; rfl) ?_
              refine wpAnyH_take (i := 1) (v := .slice (some ⟨g, off, none⟩) len c) (List.getElem?_toArray.trans rfl) (by kernel_rfl) (by kernel_rfl) (by kernel_rfl) (fun _ _ _ h => h) (.inl ⟨rfl, fun w' hS => rfl⟩) hG ?_
              refine act_normS (by simp only [Act.put, List.setIfInBounds_toArray, List.set_cons_zero, List.set_cons_succ]; rfl) ?_
              refine wpAnyH_take (i := 2) (v := .int .i64 (k : Int)) (List.getElem?_toArray.trans rfl) (by kernel_rfl) (by kernel_rfl) (by kernel_rfl) (fun _ _ _ h => h) (.inl ⟨rfl, fun w' hS => rfl⟩) hG ?_
              refine act_normS (by simp only [Act.put, List.setIfInBounds_toArray, List.set_cons_zero, List.set_cons_succ]; rfl) ?_
              refine wpAnyH_take (i := 3) (v := .pointer (some ⟨g, off + k, none⟩)) (List.getElem?_toArray.trans rfl) (by kernel_rfl) (by kernel_rfl) (by kernel_rfl) (fun _ _ _ h => h) (.inl ⟨rfl, fun w' hS => by simp [go_sem, hkl]⟩) hG ?_
              refine act_normS (by simp only [Act.put, List.setIfInBounds_toArray, List.set_cons_zero, List.set_cons_succ]; rfl) ?_
              refine wpAnyH_take (i := 4) (v := .int .u64 (x : Int)) (List.getElem?_toArray.trans rfl) (by kernel_rfl) (by kernel_rfl) (by kernel_rfl) (fun _ _ _ h => h) (.inl ⟨rfl, fun w' hS => by have hc := (hS.cell (p := ⟨g, off + k, none⟩) hg).trans hx0; simp [go_sem, hc]⟩) hG ?_
              refine act_normS (by simp only [Act.put, List.setIfInBounds_toArray, List.set_cons_zero, List.set_cons_succ]; rfl) ?_
              refine wpAnyH_take (i := 5) (v := .slice (some ⟨g, off, none⟩) len c) (List.getElem?_toArray.trans rfl) (by kernel_rfl) (by kernel_rfl) (by kernel_rfl) (fun _ _ _ h => h) (.inl ⟨rfl, fun w' hS => rfl⟩) hG ?_
              refine act_normS (by simp only [Act.put, List.setIfInBounds_toArray, List.set_cons_zero, List.set_cons_succ]; rfl) ?_
              refine wpAnyH_take (i := 6) (v := .int .i64 (k : Int)) (List.getElem?_toArray.trans rfl) (by kernel_rfl) (by kernel_rfl) (by kernel_rfl) (fun _ _ _ h => h) (.inl ⟨rfl, fun w' hS => rfl⟩) hG ?_
              refine act_normS (by simp only [Act.put, List.setIfInBounds_toArray, List.set_cons_zero, List.set_cons_succ]; rfl) ?_
              refine wpAnyH_take (i := 7) (v := .int .i64 ((k : Int) + 1)) (List.getElem?_toArray.trans rfl) (by kernel_rfl) (by kernel_rfl) (by kernel_rfl) (fun _ _ _ h => h) (.inl ⟨rfl, fun w' hS => by simp [go_sem, hwi]⟩) hG ?_
              refine act_normS (by simp only [Act.put, List.setIfInBounds_toArray, List.set_cons_zero, List.set_cons_succ]; rfl) ?_
              refine wpAnyH_take (i := 8) (v := .pointer (some ⟨g, off + (k + 1), none⟩)) (List.getElem?_toArray.trans rfl) (by kernel_rfl) (by kernel_rfl) (by kernel_rfl) (fun _ _ _ h => h) (.inl ⟨rfl, fun w' hS => by simp [go_sem, htn, hnn, hni]⟩) hG ?_
              refine act_normS (by simp only [Act.put, List.setIfInBounds_toArray, List.set_cons_zero, List.set_cons_succ]; rfl) ?_
              refine wpAnyH_take (i := 9) (v := .int .u64 (y : Int)) (List.getElem?_toArray.trans rfl) (by kernel_rfl) (by kernel_rfl) (by kernel_rfl) (fun _ _ _ h => h) (.inl ⟨rfl, fun w' hS => by have hc := (hS.cell (p := ⟨g, off + (k + 1), none⟩) hg).trans hy0; simp [go_sem, hc]⟩) hG ?_
              refine act_normS (by simp only [Act.put, List.setIfInBounds_toArray, List.set_cons_zero, List.set_cons_succ]; rfl) ?_
              refine wpAnyH_take (i := 10) (v := .agg #[.int .u64 (x : Int), .int .u64 (y : Int)]) (List.getElem?_toArray.trans rfl) (by kernel_rfl) (by kernel_rfl) (by kernel_rfl) (fun _ _ _ h => h) (.inl ⟨rfl, fun w' hS => by simp [go_sem]⟩) hG ?_
              refine act_normS (by simp only [Act.put, List.setIfInBounds_toArray, List.set_cons_zero, List.set_cons_succ]; rfl) ?_
              refine wpAnyH_ready (rs := [11]) (by kernel_rfl) (by simp) (AllReadyH.cons (List.getElem?_toArray.trans rfl) (fun K' hK => ?_) AllReadyH.nil)
              refine wanted_goS rfl ?_
              go_simp
              have hbl : Below we.heap.size we (we.drew.alloc (.cells #[.int .u64 (x : Int), .int .u64 (y : Int)] 37)) := (Below.refl we.heap.size we).drew.alloc (Nat.le_refl _) _
              have hrl : Rs (we.drew.alloc (.cells #[.int .u64 (x : Int), .int .u64 (y : Int)] 37)) (we.heap.size + 1) (some ⟨we.heap.size, 0, none⟩) [(x, y)] := rs_new_at we.drew (x, y) _ rfl
              have hol2 := HO2.out.below hbl
              have hbl2 : Below w1.heap.size w1 (we.drew.alloc (.cells #[.int .u64 (x : Int), .int .u64 (y : Int)] 37)) := HB3.out.trans (hbl.mono hbase3)
              refine hK.out _ _ (hbl2) (fun _ => ?_)
              clear hK K'
              refine wpAnyH_ready (rs := [12]) (by kernel_rfl) (by simp) (AllReadyH.cons (List.getElem?_toArray.trans rfl) (fun K' hK => ?_) AllReadyH.nil)
              refine step_app_rg rfl (.tmp 84) (.tmp 95) rfl w1.heap.size (.slice (some ⟨gn, 0, none⟩) (m + 1) cn) (o ++ [z]) rfl hol2 _ (some ⟨we.heap.size, 0, none⟩) 1 1 [(x, y)] rfl hrl rfl (by rw [HM1.out]; omega) hbl2.size ?_
              intro v5 w5 ho5 hg5 _
              have hb5 : Below w1.heap.size w1 w5 := hbl2.grown hg5 hbl2.size (fun q hq => (hol2.ge hq).1)
              refine hK.out _ _ (hb5) (fun _ => ?_)
              clear hK K'
              refine wpAnyH_take (i := 13) (v := v5) (List.getElem?_toArray.trans rfl) (by kernel_rfl) (by kernel_rfl) (by kernel_rfl) (fun _ _ _ h => h) (.inl ⟨rfl, fun w' hS => rfl⟩) hb5 ?_
              refine act_normS (by simp only [Act.put, List.setIfInBounds_toArray, List.set_cons_zero, List.set_cons_succ]; rfl) ?_
              refine wpAnyH_done (by kernel_rfl) ?_ _
              have HO5 := Lib.hid ho5
              have HB5 := Lib.hid hb5
              clear hG hbl hrl hol2 hbl2 ho5 hg5 hb5
              go_wp2
              go_roundw
              case rel => exact ⟨_, k + 1, (o ++ [z]) ++ [(x, y)], rfl, by go_num, by omega, Lib.hid (HNX.out _ (HMT.out.anew HCW.out.1 HCW.out.2 (by rw [HWX.out, HKK.out]; rfl) (fun o' z' e => by have h9 := (List.append_inj' e rfl).2; simp at h9; rw [← h9]; exact HZX.out)) (by rw [List.length_append, HM1.out]; simp; omega)), HO5, HB5⟩
              case measure => simp [intOf]; omega
        · rcases List.eq_nil_or_concat out with rfl | ⟨o, z, rfl⟩
          · obtain ⟨A9, c9, rfl, _, _⟩ := HO1.out.form
            simp only [List.length_nil] at *
            go_wp2
            go_quiet (fail)
            have hd0 := below_drewN (Below.refl wd.heap.size wd) nq
            have HO2 := Lib.hid (HO1.out.below hd0)
            have HB3 := Lib.hid (below_drewN HB2.out nq)
            have hx3 := (hd0.cell (p := ⟨g, off + k, none⟩) hgr).trans hx2
            have hy3 := (hd0.cell (p := ⟨g, off + (k + 1), none⟩) hgr).trans hy2
            have hbase3 : w1.heap.size ≤ (wd.drewN nq).heap.size := Nat.le_trans hbase2 hd0.size
            clear hx2 hy2 hgr hd0 HO1 HB2 hbase2
            generalize wd.drewN nq = we at *
            go_wp2
            have hG : Below w1.heap.size w1 we.drew := HB3.out.drew
            refine wp_region_held_drew (S := fun w' => Below w1.heap.size w1 w') (by kernel_rfl) hG (fun _ => ?_)
            refine wpAnyH_take (i := 0) (v := .slice A9 0 c9) (List.getElem?_toArray.trans rfl) (by kernel_rfl) (by kernel_rfl) (by kernel_rfl) (fun _ _ _ h => h) (.inl ⟨rfl, fun w' hS => rfl⟩) hG ?_
            refine act_normS (by simp only [Act.put, List.setIfInBounds_toArray, List.set_cons_zero, List.set_cons_succ]; rfl) ?_
            refine wpAnyH_take (i := 1) (v := .slice (some ⟨g, off, none⟩) len c) (List.getElem?_toArray.trans rfl) (by kernel_rfl) (by kernel_rfl) (by kernel_rfl) (fun _ _ _ h => h) (.inl ⟨rfl, fun w' hS => rfl⟩) hG ?_
            refine act_normS (by simp only [Act.put, List.setIfInBounds_toArray, List.set_cons_zero, List.set_cons_succ]; rfl) ?_
            refine wpAnyH_take (i := 2) (v := .int .i64 (k : Int)) (List.getElem?_toArray.trans rfl) (by kernel_rfl) (by kernel_rfl) (by kernel_rfl) (fun _ _ _ h => h) (.inl ⟨rfl, fun w' hS => rfl⟩) hG ?_
            refine act_normS (by simp only [Act.put, List.setIfInBounds_toArray, List.set_cons_zero, List.set_cons_succ]; rfl) ?_
            refine wpAnyH_take (i := 3) (v := .pointer (some ⟨g, off + k, none⟩)) (List.getElem?_toArray.trans rfl) (by kernel_rfl) (by kernel_rfl) (by kernel_rfl) (fun _ _ _ h => h) (.inl ⟨rfl, fun w' hS => by simp [go_sem, hkl]⟩) hG ?_
            refine act_normS (by simp only [Act.put, List.setIfInBounds_toArray, List.set_cons_zero, List.set_cons_succ]; rfl) ?_
            refine wpAnyH_take (i := 4) (v := .int .u64 (x : Int)) (List.getElem?_toArray.trans rfl) (by kernel_rfl) (by kernel_rfl) (by kernel_rfl) (fun _ _ _ h => h) (.inl ⟨rfl, fun w' hS => by have hc := (hS.cell (p := ⟨g, off + k, none⟩) hg).trans hx0; simp [go_sem, hc]⟩) hG ?_
            refine act_normS (by simp only [Act.put, List.setIfInBounds_toArray, List.set_cons_zero, List.set_cons_succ]; rfl) ?_
            refine wpAnyH_take (i := 5) (v := .slice (some ⟨g, off, none⟩) len c) (List.getElem?_toArray.trans rfl) (by kernel_rfl) (by kernel_rfl) (by kernel_rfl) (fun _ _ _ h => h) (.inl ⟨rfl, fun w' hS => rfl⟩) hG ?_
            refine act_normS (by simp only [Act.put, List.setIfInBounds_toArray, List.set_cons_zero, List.set_cons_succ]; rfl) ?_
            refine wpAnyH_take (i := 6) (v := .int .i64 (k : Int)) (List.getElem?_toArray.trans rfl) (by kernel_rfl) (by kernel_rfl) (by kernel_rfl) (fun _ _ _ h => h) (.inl ⟨rfl, fun w' hS => rfl⟩) hG ?_
            refine act_normS (by simp only [Act.put, List.setIfInBounds_toArray, List.set_cons_zero, List.set_cons_succ]; rfl) ?_
            refine wpAnyH_take (i := 7) (v := .int .i64 ((k : Int) + 1)) (List.getElem?_toArray.trans rfl) (by kernel_rfl) (by kernel_rfl) (by kernel_rfl) (fun _ _ _ h => h) (.inl ⟨rfl, fun w' hS => by simp [go_sem, hwi]⟩) hG ?_
            refine act_normS (by simp only [Act.put, List.setIfInBounds_toArray, List.set_cons_zero, List.set_cons_succ]; rfl) ?_
            refine wpAnyH_take (i := 8) (v := .pointer (some ⟨g, off + (k + 1), none⟩)) (List.getElem?_toArray.trans rfl) (by kernel_rfl) (by kernel_rfl) (by kernel_rfl) (fun _ _ _ h => h) (.inl ⟨rfl, fun w' hS => by simp [go_sem, htn, hnn, hni]⟩) hG ?_
            refine act_normS (by simp only [Act.put, List.setIfInBounds_toArray, List.set_cons_zero, List.set_cons_succ]; rfl) ?_
            refine wpAnyH_take (i := 9) (v := .int .u64 (y : Int)) (List.getElem?_toArray.trans rfl) (by kernel_rfl) (by kernel_rfl) (by kernel_rfl) (fun _ _ _ h => h) (.inl ⟨rfl, fun w' hS => by have hc := (hS.cell (p := ⟨g, off + (k + 1), none⟩) hg).trans hy0; simp [go_sem, hc]⟩) hG ?_
            refine act_normS (by simp only [Act.put, List.setIfInBounds_toArray, List.set_cons_zero, List.set_cons_succ]; rfl) ?_
            refine wpAnyH_take (i := 10) (v := .agg #[.int .u64 (x : Int), .int .u64 (y : Int)]) (List.getElem?_toArray.trans rfl) (by kernel_rfl) (by kernel_rfl) (by kernel_rfl) (fun _ _ _ h => h) (.inl ⟨rfl, fun w' hS => by simp [go_sem]⟩) hG ?_
            refine act_normS (by simp only [Act.put, List.setIfInBounds_toArray, List.set_cons_zero, List.set_cons_succ]; rfl) ?_
            refine wpAnyH_ready (rs := [11]) (by kernel_rfl) (by simp) (AllReadyH.cons (List.getElem?_toArray.trans rfl) (fun K' hK => ?_) AllReadyH.nil)
            refine wanted_goS rfl ?_
            go_simp
            have hbl : Below we.heap.size we (we.drew.alloc (.cells #[.int .u64 (x : Int), .int .u64 (y : Int)] 37)) := (Below.refl we.heap.size we).drew.alloc (Nat.le_refl _) _
            have hrl : Rs (we.drew.alloc (.cells #[.int .u64 (x : Int), .int .u64 (y : Int)] 37)) (we.heap.size + 1) (some ⟨we.heap.size, 0, none⟩) [(x, y)] := rs_new_at we.drew (x, y) _ rfl
            have hol2 := HO2.out.below hbl
            have hbl2 : Below w1.heap.size w1 (we.drew.alloc (.cells #[.int .u64 (x : Int), .int .u64 (y : Int)] 37)) := HB3.out.trans (hbl.mono hbase3)
            refine hK.out _ _ (hbl2) (fun _ => ?_)
            clear hK K'
            refine wpAnyH_ready (rs := [12]) (by kernel_rfl) (by simp) (AllReadyH.cons (List.getElem?_toArray.trans rfl) (fun K' hK => ?_) AllReadyH.nil)
            refine step_app_rg rfl (.tmp 84) (.tmp 95) rfl w1.heap.size (.slice A9 0 c9) [] rfl hol2 _ (some ⟨we.heap.size, 0, none⟩) 1 1 [(x, y)] rfl hrl rfl (by simp) hbl2.size ?_
            intro v5 w5 ho5 hg5 _
            have hb5 : Below w1.heap.size w1 w5 := hbl2.grown hg5 hbl2.size (fun q hq => (hol2.ge hq).1)
            refine hK.out _ _ (hb5) (fun _ => ?_)
            clear hK K'
            refine wpAnyH_take (i := 13) (v := v5) (List.getElem?_toArray.trans rfl) (by kernel_rfl) (by kernel_rfl) (by kernel_rfl) (fun _ _ _ h => h) (.inl ⟨rfl, fun w' hS => rfl⟩) hb5 ?_
            refine act_normS (by simp only [Act.put, List.setIfInBounds_toArray, List.set_cons_zero, List.set_cons_succ]; rfl) ?_
            refine wpAnyH_done (by kernel_rfl) ?_ _
            have HO5 := Lib.hid ho5
            have HB5 := Lib.hid hb5
            clear hG hbl hrl hol2 hbl2 ho5 hg5 hb5
            go_wp2
            go_roundw
            case rel => exact ⟨_, k + 1, [] ++ [(x, y)], rfl, by go_num, by omega, Lib.hid (HNX.out _ (HMT.out.anew HCW.out.1 HCW.out.2 (by rw [HWX.out, HKK.out]; rfl) (fun o z e => by simp at e)) (by simp)), HO5, HB5⟩
            case measure => simp [intOf]; omega
          · rw [List.concat_eq_append] at *
            obtain ⟨m, hmi⟩ : ∃ m, m = o.length := ⟨_, rfl⟩
            have hm : (o ++ [z]).length = m + 1 := by simp [hmi]
            have hm2 : m < k := by omega
            have d0 : decide ((m : Int) < 0) = false := decide_eq_false (by omega)
            have d3 : (m : Int) < (m : Int) + 1 := by omega
            have d4 : decide ((m : Int) + 1 > 0) = true := decide_eq_true (by omega)
            obtain ⟨gn, cn, cur, hvn, hgn, hnc, hcn, hwn, hsz', _⟩ := ownR_some HO1.out (by omega)
            have hv7 := hvn
            rw [hm] at hnc hv7
            subst hv7
            have hz0 : (o ++ [z])[m]? = some z := by simp [hmi]
            have hzc := (RowAt.cell (n := (o ++ [z]).length) (by unfold RowAt; rw [← hvn]; exact HO1.out) hz0).2
            have hfz := hwn.frozen (m * 2 + 1)
            have hgl := hwn.lt
            have hum : IntKind.i64.wrap (((m : Int) + 1) - 1) = (m : Int) := by rw [show ((m : Int) + 1) - 1 = (m : Int) by omega]; exact IntWalk.i64_in _ (by omega)
            unfold maxLen at hcn
            have HMI := Lib.hid hmi
            have HM1 := Lib.hid hm
            clear hwn hz0 hsz' hmi hm hvn
            by_cases hzx : z.2 = x
            · have t5 : ((z.2 : Int) == (x : Int)) = true := by rw [beq_iff_eq]; omega
              have HZX := Lib.hid hzx
              clear hzx
              go_wp2
              go_quiet (fail)
              have hd0 := below_drewN (Below.refl wd.heap.size wd) nq
              have HO2 := Lib.hid (HO1.out.below hd0)
              have HB3 := Lib.hid (below_drewN HB2.out nq)
              have hx3 := (hd0.cell (p := ⟨g, off + k, none⟩) hgr).trans hx2
              have hy3 := (hd0.cell (p := ⟨g, off + (k + 1), none⟩) hgr).trans hy2
              have hbase3 : w1.heap.size ≤ (wd.drewN nq).heap.size := Nat.le_trans hbase2 hd0.size
              have hz3 := (hd0.cell (p := ⟨gn, m * 2 + 1, none⟩) hgl).trans hzc
              have hf3 := (hd0.frozen (p := ⟨gn, m * 2 + 1, none⟩) hgl).trans hfz
              clear hx2 hy2 hgr hd0 HO1 HB2 hbase2 hzc hfz hgl
              generalize wd.drewN nq = we at *
              go_wp2
              go_roundw
              case rel =>
                have h1 := HO2.out
                unfold OwR at h1
                rw [HM1.out] at h1
                have h2 := ownR_set h1 m z y (by rw [HMI.out]; simp)
                have h3 : (o ++ [z]).set m (z.1, y) = o ++ [(z.1, y)] := by rw [HMI.out]; simp
                rw [h3] at h2
                refine ⟨_, k + 1, o ++ [(z.1, y)], rfl, by go_num, by omega, Lib.hid (HNX.out _ (HMT.out.longer HCW.out.1 HCW.out.2 (by rw [HWX.out, HKK.out]; rfl) HZX.out) (by simp [← HMI.out]; omega)), Lib.hid ?_, Lib.hid (HB3.out.grown (grown_set _ _ _ _) HB3.out.size (fun q hq => by have := Option.some.inj hq; omega))⟩
                unfold OwR
                rw [show (o ++ [(z.1, y)]).length = m + 1 by simp [HMI.out]]
                exact h2
              case measure => simp [intOf]; omega
            · have t5 : ((z.2 : Int) == (x : Int)) = false := by rw [beq_eq_false_iff_ne]; omega
              have HZX := Lib.hid hzx
              clear hzx
              go_wp2
              go_quiet (fail)
              have hd0 := below_drewN (Below.refl wd.heap.size wd) nq
              have HO2 := Lib.hid (HO1.out.below hd0)
              have HB3 := Lib.hid (below_drewN HB2.out nq)
              have hx3 := (hd0.cell (p := ⟨g, off + k, none⟩) hgr).trans hx2
              have hy3 := (hd0.cell (p := ⟨g, off + (k + 1), none⟩) hgr).trans hy2
              have hbase3 : w1.heap.size ≤ (wd.drewN nq).heap.size := Nat.le_trans hbase2 hd0.size
              clear hx2 hy2 hgr hd0 HO1 HB2 hbase2
              generalize wd.drewN nq = we at *
              go_wp2
              have hG : Below w1.heap.size w1 we.drew := HB3.out.drew
              refine wp_region_held_drew (S := fun w' => Below w1.heap.size w1 w') (by kernel_rfl) hG (fun _ => ?_)
              refine wpAnyH_take (i := 0) (v := .slice (some ⟨gn, 0, none⟩) (m + 1) cn) (List.getElem?_toArray.trans rfl) (by kernel_rfl) (by kernel_rfl) (by kernel_rfl) (fun _ _ _ h => h) (.inl ⟨rfl, fun w' hS => rfl⟩) hG ?_
              refine act_normS (by simp only [Act.put, List.setIfInBounds_toArray, List.set_cons_zero, List.set_cons_succ]; rfl) ?_
              refine wpAnyH_take (i := 1) (v := .slice (some ⟨g, off, none⟩) len c) (List.getElem?_toArray.trans rfl) (by kernel_rfl) (by kernel_rfl) (by kernel_rfl) (fun _ _ _ h => h) (.inl ⟨rfl, fun w' hS => rfl⟩) hG ?_
              refine act_normS (by simp only [Act.put, List.setIfInBounds_toArray, List.set_cons_zero, List.set_cons_succ]; rfl) ?_
              refine wpAnyH_take (i := 2) (v := .int .i64 (k : Int)) (List.getElem?_toArray.trans rfl) (by kernel_rfl) (by kernel_rfl) (by kernel_rfl) (fun _ _ _ h => h) (.inl ⟨rfl, fun w' hS => rfl⟩) hG ?_
              refine act_normS (by simp only [Act.put, List.setIfInBounds_toArray, List.set_cons_zero, List.set_cons_succ]; rfl) ?_
              refine wpAnyH_take (i := 3) (v := .pointer (some ⟨g, off + k, none⟩)) (List.getElem?_toArray.trans rfl) (by kernel_rfl) (by kernel_rfl) (by kernel_rfl) (fun _ _ _ h => h) (.inl ⟨rfl, fun w' hS => by simp [go_sem, hkl]⟩) hG ?_
              refine act_normS (by simp only [Act.put, List.setIfInBounds_toArray, List.set_cons_zero, List.set_cons_succ]; rfl) ?_
              refine wpAnyH_take (i := 4) (v := .int .u64 (x : Int)) (List.getElem?_toArray.trans rfl) (by kernel_rfl) (by kernel_rfl) (by kernel_rfl) (fun _ _ _ h => h) (.inl ⟨rfl, fun w' hS => by have hc := (hS.cell (p := ⟨g, off + k, none⟩) hg).trans hx0; simp [go_sem, hc]⟩) hG ?_
              refine act_normS (by simp only [Act.put, List.setIfInBounds_toArray, List.set_cons_zero, List.set_cons_succ]; rfl) ?_
              refine wpAnyH_take (i := 5) (v := .slice (some ⟨g, off, none⟩) len c) (List.getElem?_toArray.trans rfl) (by kernel_rfl) (by kernel_rfl) (by kernel_rfl) (fun _ _ _ h => h) (.inl ⟨rfl, fun w' hS => rfl⟩) hG ?_
              refine act_normS (by simp only [Act.put, List.setIfInBounds_toArray, List.set_cons_zero, List.set_cons_succ]; rfl) ?_
              refine wpAnyH_take (i := 6) (v := .int .i64 (k : Int)) (List.getElem?_toArray.trans rfl) (by kernel_rfl) (by kernel_rfl) (by kernel_rfl) (fun _ _ _ h => h) (.inl ⟨rfl, fun w' hS => rfl⟩) hG ?_
              refine act_normS (by simp only [Act.put, List.setIfInBounds_toArray, List.set_cons_zero, List.set_cons_succ]; rfl) ?_
              refine wpAnyH_take (i := 7) (v := .int .i64 ((k : Int) + 1)) (List.getElem?_toArray.trans rfl) (by kernel_rfl) (by kernel_rfl) (by kernel_rfl) (fun _ _ _ h => h) (.inl ⟨rfl, fun w' hS => by simp [go_sem, hwi]⟩) hG ?_
              refine act_normS (by simp only [Act.put, List.setIfInBounds_toArray, List.set_cons_zero, List.set_cons_succ]; rfl) ?_
              refine wpAnyH_take (i := 8) (v := .pointer (some ⟨g, off + (k + 1), none⟩)) (List.getElem?_toArray.trans rfl) (by kernel_rfl) (by kernel_rfl) (by kernel_rfl) (fun _ _ _ h => h) (.inl ⟨rfl, fun w' hS => by simp [go_sem, htn, hnn, hni]⟩) hG ?_
              refine act_normS (by simp only [Act.put, List.setIfInBounds_toArray, List.set_cons_zero, List.set_cons_succ]; rfl) ?_
              refine wpAnyH_take (i := 9) (v := .int .u64 (y : Int)) (List.getElem?_toArray.trans rfl) (by kernel_rfl) (by kernel_rfl) (by kernel_rfl) (fun _ _ _ h => h) (.inl ⟨rfl, fun w' hS => by have hc := (hS.cell (p := ⟨g, off + (k + 1), none⟩) hg).trans hy0; simp [go_sem, hc]⟩) hG ?_
              refine act_normS (by simp only [Act.put, List.setIfInBounds_toArray, List.set_cons_zero, List.set_cons_succ]; rfl) ?_
              refine wpAnyH_take (i := 10) (v := .agg #[.int .u64 (x : Int), .int .u64 (y : Int)]) (List.getElem?_toArray.trans rfl) (by kernel_rfl) (by kernel_rfl) (by kernel_rfl) (fun _ _ _ h => h) (.inl ⟨rfl, fun w' hS => by simp [go_sem]⟩) hG ?_
              refine act_normS (by simp only [Act.put, List.setIfInBounds_toArray, List.set_cons_zero, List.set_cons_succ]; rfl) ?_
              refine wpAnyH_ready (rs := [11]) (by kernel_rfl) (by simp) (AllReadyH.cons (List.getElem?_toArray.trans rfl) (fun K' hK => ?_) AllReadyH.nil)
              refine wanted_goS rfl ?_
              go_simp
              have hbl : Below we.heap.size we (we.drew.alloc (.cells #[.int .u64 (x : Int), .int .u64 (y : Int)] 37)) := (Below.refl we.heap.size we).drew.alloc (Nat.le_refl _) _
              have hrl : Rs (we.drew.alloc (.cells #[.int .u64 (x : Int), .int .u64 (y : Int)] 37)) (we.heap.size + 1) (some ⟨we.heap.size, 0, none⟩) [(x, y)] := rs_new_at we.drew (x, y) _ rfl
              have hol2 := HO2.out.below hbl
              have hbl2 : Below w1.heap.size w1 (we.drew.alloc (.cells #[.int .u64 (x : Int), .int .u64 (y : Int)] 37)) := HB3.out.trans (hbl.mono hbase3)
              refine hK.out _ _ (hbl2) (fun _ => ?_)
              clear hK K'
              refine wpAnyH_ready (rs := [12]) (by kernel_rfl) (by simp) (AllReadyH.cons (List.getElem?_toArray.trans rfl) (fun K' hK => ?_) AllReadyH.nil)
              refine step_app_rg rfl (.tmp 84) (.tmp 95) rfl w1.heap.size (.slice (some ⟨gn, 0, none⟩) (m + 1) cn) (o ++ [z]) rfl hol2 _ (some ⟨we.heap.size, 0, none⟩) 1 1 [(x, y)] rfl hrl rfl (by rw [HM1.out]; omega) hbl2.size ?_
              intro v5 w5 ho5 hg5 _
              have hb5 : Below w1.heap.size w1 w5 := hbl2.grown hg5 hbl2.size (fun q hq => (hol2.ge hq).1)
              refine hK.out _ _ (hb5) (fun _ => ?_)
              clear hK K'
              refine wpAnyH_take (i := 13) (v := v5) (List.getElem?_toArray.trans rfl) (by kernel_rfl) (by kernel_rfl) (by kernel_rfl) (fun _ _ _ h => h) (.inl ⟨rfl, fun w' hS => rfl⟩) hb5 ?_
              refine act_normS (by simp only [Act.put, List.setIfInBounds_toArray, List.set_cons_zero, List.set_cons_succ]; rfl) ?_
              refine wpAnyH_done (by kernel_rfl) ?_ _
              have HO5 := Lib.hid ho5
              have HB5 := Lib.hid hb5
              clear hG hbl hrl hol2 hbl2 ho5 hg5 hb5
              go_wp2
              go_roundw
              case rel => exact ⟨_, k + 1, (o ++ [z]) ++ [(x, y)], rfl, by go_num, by omega, Lib.hid (HNX.out _ (HMT.out.anew HCW.out.1 HCW.out.2 (by rw [HWX.out, HKK.out]; rfl) (fun o' z' e => by have h9 := (List.append_inj' e rfl).2; simp at h9; rw [← h9]; exact HZX.out)) (by rw [List.length_append, HM1.out]; simp; omega)), HO5, HB5⟩
              case measure => simp [intOf]; omega
        · rcases List.eq_nil_or_concat out with rfl | ⟨o, z, rfl⟩
          · obtain ⟨A9, c9, rfl, _, _⟩ := HO1.out.form
            simp only [List.length_nil] at *
            go_wp2
            go_quiet (fail)
            have hd0 := below_drewN (Below.refl wd.heap.size wd) nq
            have HO2 := Lib.hid (HO1.out.below hd0)
            have HB3 := Lib.hid (below_drewN HB2.out nq)
            have hx3 := (hd0.cell (p := ⟨g, off + k, none⟩) hgr).trans hx2
            have hy3 := (hd0.cell (p := ⟨g, off + (k + 1), none⟩) hgr).trans hy2
            have hbase3 : w1.heap.size ≤ (wd.drewN nq).heap.size := Nat.le_trans hbase2 hd0.size
            clear hx2 hy2 hgr hd0 HO1 HB2 hbase2
            generalize wd.drewN nq = we at *
            go_wp2
            have hG : Below w1.heap.size w1 we.drew := HB3.out.drew
            refine wp_region_held_drew (S := fun w' => Below w1.heap.size w1 w') (by kernel_rfl) hG (fun _ => ?_)
            refine wpAnyH_take (i := 0) (v := .slice A9 0 c9) (List.getElem?_toArray.trans rfl) (by kernel_rfl) (by kernel_rfl) (by kernel_rfl) (fun _ _ _ h => h) (.inl ⟨rfl, fun w' hS => rfl⟩) hG ?_
            refine act_normS (by simp only [Act.put, List.setIfInBounds_toArray, List.set_cons_zero, List.set_cons_succ]; rfl) ?_
            refine wpAnyH_take (i := 1) (v := .slice (some ⟨g, off, none⟩) len c) (List.getElem?_toArray.trans rfl) (by kernel_rfl) (by kernel_rfl) (by kernel_rfl) (fun _ _ _ h => h) (.inl ⟨rfl, fun w' hS => rfl⟩) hG ?_
            refine act_normS (by simp only [Act.put, List.setIfInBounds_toArray, List.set_cons_zero, List.set_cons_succ]; rfl) ?_
            refine wpAnyH_take (i := 2) (v := .int .i64 (k : Int)) (List.getElem?_toArray.trans rfl) (by kernel_rfl) (by kernel_rfl) (by kernel_rfl) (fun _ _ _ h => h) (.inl ⟨rfl, fun w' hS => rfl⟩) hG ?_
            refine act_normS (by simp only [Act.put, List.setIfInBounds_toArray, List.set_cons_zero, List.set_cons_succ]; rfl) ?_
            refine wpAnyH_take (i := 3) (v := .pointer (some ⟨g, off + k, none⟩)) (List.getElem?_toArray.trans rfl) (by kernel_rfl) (by kernel_rfl) (by kernel_rfl) (fun _ _ _ h => h) (.inl ⟨rfl, fun w' hS => by simp [go_sem, hkl]⟩) hG ?_
            refine act_normS (by simp only [Act.put, List.setIfInBounds_toArray, List.set_cons_zero, List.set_cons_succ]; rfl) ?_
            refine wpAnyH_take (i := 4) (v := .int .u64 (x : Int)) (List.getElem?_toArray.trans rfl) (by kernel_rfl) (by kernel_rfl) (by kernel_rfl) (fun _ _ _ h => h) (.inl ⟨rfl, fun w' hS => by have hc := (hS.cell (p := ⟨g, off + k, none⟩) hg).trans hx0; simp [go_sem, hc]⟩) hG ?_
            refine act_normS (by simp only [Act.put, List.setIfInBounds_toArray, List.set_cons_zero, List.set_cons_succ]; rfl) ?_
            refine wpAnyH_take (i := 5) (v := .slice (some ⟨g, off, none⟩) len c) (List.getElem?_toArray.trans rfl) (by kernel_rfl) (by kernel_rfl) (by kernel_rfl) (fun _ _ _ h => h) (.inl ⟨rfl, fun w' hS => rfl⟩) hG ?_
            refine act_normS (by simp only [Act.put, List.setIfInBounds_toArray, List.set_cons_zero, List.set_cons_succ]; rfl) ?_
            refine wpAnyH_take (i := 6) (v := .int .i64 (k : Int)) (List.getElem?_toArray.trans rfl) (by kernel_rfl) (by kernel_rfl) (by kernel_rfl) (fun _ _ _ h => h) (.inl ⟨rfl, fun w' hS => rfl⟩) hG ?_
            refine act_normS (by simp only [Act.put, List.setIfInBounds_toArray, List.set_cons_zero, List.set_cons_succ]; rfl) ?_
            refine wpAnyH_take (i := 7) (v := .int .i64 ((k : Int) + 1)) (List.getElem?_toArray.trans rfl) (by kernel_rfl) (by kernel_rfl) (by kernel_rfl) (fun _ _ _ h => h) (.inl ⟨rfl, fun w' hS => by simp [go_sem, hwi]⟩) hG ?_
            refine act_normS (by simp only [Act.put, List.setIfInBounds_toArray, List.set_cons_zero, List.set_cons_succ]; rfl) ?_
            refine wpAnyH_take (i := 8) (v := .pointer (some ⟨g, off + (k + 1), none⟩)) (List.getElem?_toArray.trans rfl) (by kernel_rfl) (by kernel_rfl) (by kernel_rfl) (fun _ _ _ h => h) (.inl ⟨rfl, fun w' hS => by simp [go_sem, htn, hnn, hni]⟩) hG ?_
            refine act_normS (by simp only [Act.put, List.setIfInBounds_toArray, List.set_cons_zero, List.set_cons_succ]; rfl) ?_
            refine wpAnyH_take (i := 9) (v := .int .u64 (y : Int)) (List.getElem?_toArray.trans rfl) (by kernel_rfl) (by kernel_rfl) (by kernel_rfl) (fun _ _ _ h => h) (.inl ⟨rfl, fun w' hS => by have hc := (hS.cell (p := ⟨g, off + (k + 1), none⟩) hg).trans hy0; simp [go_sem, hc]⟩) hG ?_
            refine act_normS (by simp only [Act.put, List.setIfInBounds_toArray, List.set_cons_zero, List.set_cons_succ]; rfl) ?_
            refine wpAnyH_take (i := 10) (v := .agg #[.int .u64 (x : Int), .int .u64 (y : Int)]) (List.getElem?_toArray.trans rfl) (by kernel_rfl) (by kernel_rfl) (by kernel_rfl) (fun _ _ _ h => h) (.inl ⟨rfl, fun w' hS => by simp [go_sem]⟩) hG ?_
            refine act_normS (by simp only [Act.put, List.setIfInBounds_toArray, List.set_cons_zero, List.set_cons_succ]; rfl) ?_
            refine wpAnyH_ready (rs := [11]) (by kernel_rfl) (by simp) (AllReadyH.cons (List.getElem?_toArray.trans rfl) (fun K' hK => ?_) AllReadyH.nil)
            refine wanted_goS rfl ?_
            go_simp
            have hbl : Below we.heap.size we (we.drew.alloc (.cells #[.int .u64 (x : Int), .int .u64 (y : Int)] 37)) := (Below.refl we.heap.size we).drew.alloc (Nat.le_refl _) _
            have hrl : Rs (we.drew.alloc (.cells #[.int .u64 (x : Int), .int .u64 (y : Int)] 37)) (we.heap.size + 1) (some ⟨we.heap.size, 0, none⟩) [(x, y)] := rs_new_at we.drew (x, y) _ rfl
            have hol2 := HO2.out.below hbl
            have hbl2 : Below w1.heap.size w1 (we.drew.alloc (.cells #[.int .u64 (x : Int), .int .u64 (y : Int)] 37)) := HB3.out.trans (hbl.mono hbase3)
            refine hK.out _ _ (hbl2) (fun _ => ?_)
            clear hK K'
            refine wpAnyH_ready (rs := [12]) (by kernel_rfl) (by simp) (AllReadyH.cons (List.getElem?_toArray.trans rfl) (fun K' hK => ?_) AllReadyH.nil)
            refine step_app_rg rfl (.tmp 84) (.tmp 95) rfl w1.heap.size (.slice A9 0 c9) [] rfl hol2 _ (some ⟨we.heap.size, 0, none⟩) 1 1 [(x, y)] rfl hrl rfl (by simp) hbl2.size ?_
            intro v5 w5 ho5 hg5 _
            have hb5 : Below w1.heap.size w1 w5 := hbl2.grown hg5 hbl2.size (fun q hq => (hol2.ge hq).1)
            refine hK.out _ _ (hb5) (fun _ => ?_)
            clear hK K'
            refine wpAnyH_take (i := 13) (v := v5) (List.getElem?_toArray.trans rfl) (by kernel_rfl) (by kernel_rfl) (by kernel_rfl) (fun _ _ _ h => h) (.inl ⟨rfl, fun w' hS => rfl⟩) hb5 ?_
            refine act_normS (by simp only [Act.put, List.setIfInBounds_toArray, List.set_cons_zero, List.set_cons_succ]; rfl) ?_
            refine wpAnyH_done (by kernel_rfl) ?_ _
            have HO5 := Lib.hid ho5
            have HB5 := Lib.hid hb5
            clear hG hbl hrl hol2 hbl2 ho5 hg5 hb5
            go_wp2
            go_roundw
            case rel => exact ⟨_, k + 1, [] ++ [(x, y)], rfl, by go_num, by omega, Lib.hid (HNX.out _ (HMT.out.anew HCW.out.1 HCW.out.2 (by rw [HWX.out, HKK.out]; rfl) (fun o z e => by simp at e)) (by simp)), HO5, HB5⟩
            case measure => simp [intOf]; omega
          · rw [List.concat_eq_append] at *
            obtain ⟨m, hmi⟩ : ∃ m, m = o.length := ⟨_, rfl⟩
            have hm : (o ++ [z]).length = m + 1 := by simp [hmi]
            have hm2 : m < k := by omega
            have d0 : decide ((m : Int) < 0) = false := decide_eq_false (by omega)
            have d3 : (m : Int) < (m : Int) + 1 := by omega
            have d4 : decide ((m : Int) + 1 > 0) = true := decide_eq_true (by omega)
            obtain ⟨gn, cn, cur, hvn, hgn, hnc, hcn, hwn, hsz', _⟩ := ownR_some HO1.out (by omega)
            have hv7 := hvn
            rw [hm] at hnc hv7
            subst hv7
            have hz0 : (o ++ [z])[m]? = some z := by simp [hmi]
            have hzc := (RowAt.cell (n := (o ++ [z]).length) (by unfold RowAt; rw [← hvn]; exact HO1.out) hz0).2
            have hfz := hwn.frozen (m * 2 + 1)
            have hgl := hwn.lt
            have hum : IntKind.i64.wrap (((m : Int) + 1) - 1) = (m : Int) := by rw [show ((m : Int) + 1) - 1 = (m : Int) by omega]; exact IntWalk.i64_in _ (by omega)
            unfold maxLen at hcn
            have HMI := Lib.hid hmi
            have HM1 := Lib.hid hm
            clear hwn hz0 hsz' hmi hm hvn
            by_cases hzx : z.2 = x
            · have t5 : ((z.2 : Int) == (x : Int)) = true := by rw [beq_iff_eq]; omega
              have HZX := Lib.hid hzx
              clear hzx
              go_wp2
              go_quiet (fail)
              have hd0 := below_drewN (Below.refl wd.heap.size wd) nq
              have HO2 := Lib.hid (HO1.out.below hd0)
              have HB3 := Lib.hid (below_drewN HB2.out nq)
              have hx3 := (hd0.cell (p := ⟨g, off + k, none⟩) hgr).trans hx2
              have hy3 := (hd0.cell (p := ⟨g, off + (k + 1), none⟩) hgr).trans hy2
              have hbase3 : w1.heap.size ≤ (wd.drewN nq).heap.size := Nat.le_trans hbase2 hd0.size
              have hz3 := (hd0.cell (p := ⟨gn, m * 2 + 1, none⟩) hgl).trans hzc
              have hf3 := (hd0.frozen (p := ⟨gn, m * 2 + 1, none⟩) hgl).trans hfz
              clear hx2 hy2 hgr hd0 HO1 HB2 hbase2 hzc hfz hgl
              generalize wd.drewN nq = we at *
              go_wp2
              go_roundw
              case rel =>
                have h1 := HO2.out
                unfold OwR at h1
                rw [HM1.out] at h1
                have h2 := ownR_set h1 m z y (by rw [HMI.out]; simp)
                have h3 : (o ++ [z]).set m (z.1, y) = o ++ [(z.1, y)] := by rw [HMI.out]; simp
                rw [h3] at h2
                refine ⟨_, k + 1, o ++ [(z.1, y)], rfl, by go_num, by omega, Lib.hid (HNX.out _ (HMT.out.longer HCW.out.1 HCW.out.2 (by rw [HWX.out, HKK.out]; rfl) HZX.out) (by simp [← HMI.out]; omega)), Lib.hid ?_, Lib.hid (HB3.out.grown (grown_set _ _ _ _) HB3.out.size (fun q hq => by have := Option.some.inj hq; omega))⟩
                unfold OwR
                rw [show (o ++ [(z.1, y)]).length = m + 1 by simp [HMI.out]]
                exact h2
              case measure => simp [intOf]; omega
            · have t5 : ((z.2 : Int) == (x : Int)) = false := by rw [beq_eq_false_iff_ne]; omega
              have HZX := Lib.hid hzx
              clear hzx
              go_wp2
              go_quiet (fail)
              have hd0 := below_drewN (Below.refl wd.heap.size wd) nq
              have HO2 := Lib.hid (HO1.out.below hd0)
              have HB3 := Lib.hid (below_drewN HB2.out nq)
              have hx3 := (hd0.cell (p := ⟨g, off + k, none⟩) hgr).trans hx2
              have hy3 := (hd0.cell (p := ⟨g, off + (k + 1), none⟩) hgr).trans hy2
              have hbase3 : w1.heap.size ≤ (wd.drewN nq).heap.size := Nat.le_trans hbase2 hd0.size
              clear hx2 hy2 hgr hd0 HO1 HB2 hbase2
              generalize wd.drewN nq = we at *
              go_wp2
              have hG : Below w1.heap.size w1 we.drew := HB3.out.drew
              refine wp_region_held_drew (S := fun w' => Below w1.heap.size w1 w') (by kernel_rfl) hG (fun _ => ?_)
              refine wpAnyH_take (i := 0) (v := .slice (some ⟨gn, 0, none⟩) (m + 1) cn) (List.getElem?_toArray.trans rfl) (by kernel_rfl) (by kernel_rfl) (by kernel_rfl) (fun _ _ _ h => h) (.inl ⟨rfl, fun w' hS => rfl⟩) hG ?_
              refine act_normS (by simp only [Act.put, List.setIfInBounds_toArray, List.set_cons_zero, List.set_cons_succ]; rfl) ?_
              refine wpAnyH_take (i := 1) (v := .slice (some ⟨g, off, none⟩) len c) (List.getElem?_toArray.trans rfl) (by kernel_rfl) (by kernel_rfl) (by kernel_rfl) (fun _ _ _ h => h) (.inl ⟨rfl, fun w' hS => rfl⟩) hG ?_
              refine act_normS (by simp only [Act.put, List.setIfInBounds_toArray, List.set_cons_zero, List.set_cons_succ]; rfl) ?_
              refine wpAnyH_take (i := 2) (v := .int .i64 (k : Int)) (List.getElem?_toArray.trans rfl) (by kernel_rfl) (by kernel_rfl) (by kernel_rfl) (fun _ _ _ h => h) (.inl ⟨rfl, fun w' hS => rfl⟩) hG ?_
              refine act_normS (by simp only [Act.put, List.setIfInBounds_toArray, List.set_cons_zero, List.set_cons_succ]; rfl) ?_
              refine wpAnyH_take (i := 3) (v := .pointer (some ⟨g, off + k, none⟩)) (List.getElem?_toArray.trans rfl) (by kernel_rfl) (by kernel_rfl) (by kernel_rfl) (fun _ _ _ h => h) (.inl ⟨rfl, fun w' hS => by simp [go_sem, hkl]⟩) hG ?_
              refine act_normS (by simp only [Act.put, List.setIfInBounds_toArray, List.set_cons_zero, List.set_cons_succ]; rfl) ?_
              refine wpAnyH_take (i := 4) (v := .int .u64 (x : Int)) (List.getElem?_toArray.trans rfl) (by kernel_rfl) (by kernel_rfl) (by kernel_rfl) (fun _ _ _ h => h) (.inl ⟨rfl, fun w' hS => by have hc := (hS.cell (p := ⟨g, off + k, none⟩) hg).trans hx0; simp [go_sem, hc]⟩) hG ?_
              refine act_normS (by simp only [Act.put, List.setIfInBounds_toArray, List.set_cons_zero, List.set_cons_succ]; rfl) ?_
              refine wpAnyH_take (i := 5) (v := .slice (some ⟨g, off, none⟩) len c) (List.getElem?_toArray.trans rfl) (by kernel_rfl) (by kernel_rfl) (by kernel_rfl) (fun _ _ _ h => h) (.inl ⟨rfl, fun w' hS => rfl⟩) hG ?_
              refine act_normS (by simp only [Act.put, List.setIfInBounds_toArray, List.set_cons_zero, List.set_cons_succ]; rfl) ?_
              refine wpAnyH_take (i := 6) (v := .int .i64 (k : Int)) (List.getElem?_toArray.trans rfl) (by kernel_rfl) (by kernel_rfl) (by kernel_rfl) (fun _ _ _ h => h) (.inl ⟨rfl, fun w' hS => rfl⟩) hG ?_
              refine act_normS (by simp only [Act.put, List.setIfInBounds_toArray, List.set_cons_zero, List.set_cons_succ]; rfl) ?_
              refine wpAnyH_take (i := 7) (v := .int .i64 ((k : Int) + 1)) (List.getElem?_toArray.trans rfl) (by kernel_rfl) (by kernel_rfl) (by kernel_rfl) (fun _ _ _ h => h) (.inl ⟨rfl, fun w' hS => by simp [go_sem, hwi]⟩) hG ?_
              refine act_normS (by simp only [Act.put, List.setIfInBounds_toArray, List.set_cons_zero, List.set_cons_succ]; rfl) ?_
              refine wpAnyH_take (i := 8) (v := .pointer (some ⟨g, off + (k + 1), none⟩)) (List.getElem?_toArray.trans rfl) (by kernel_rfl) (by kernel_rfl) (by kernel_rfl) (fun _ _ _ h => h) (.inl ⟨rfl, fun w' hS => by simp [go_sem, htn, hnn, hni]⟩) hG ?_
              refine act_normS (by simp only [Act.put, List.setIfInBounds_toArray, List.set_cons_zero, List.set_cons_succ]; rfl) ?_
              refine wpAnyH_take (i := 9) (v := .int .u64 (y : Int)) (List.getElem?_toArray.trans rfl) (by kernel_rfl) (by kernel_rfl) (by kernel_rfl) (fun _ _ _ h => h) (.inl ⟨rfl, fun w' hS => by have hc := (hS.cell (p := ⟨g, off + (k + 1), none⟩) hg).trans hy0; simp [go_sem, hc]⟩) hG ?_
              refine act_normS (by simp only [Act.put, List.setIfInBounds_toArray, List.set_cons_zero, List.set_cons_succ]; rfl) ?_
              refine wpAnyH_take (i := 10) (v := .agg #[.int .u64 (x : Int), .int .u64 (y : Int)]) (List.getElem?_toArray.trans rfl) (by kernel_rfl) (by kernel_rfl) (by kernel_rfl) (fun _ _ _ h => h) (.inl ⟨rfl, fun w' hS => by simp [go_sem]⟩) hG ?_
              refine act_normS (by simp only [Act.put, List.setIfInBounds_toArray, List.set_cons_zero, List.set_cons_succ]; rfl) ?_
              refine wpAnyH_ready (rs := [11]) (by kernel_rfl) (by simp) (AllReadyH.cons (List.getElem?_toArray.trans rfl) (fun K' hK => ?_) AllReadyH.nil)
              refine wanted_goS rfl ?_
              go_simp
              have hbl : Below we.heap.size we (we.drew.alloc (.cells #[.int .u64 (x : Int), .int .u64 (y : Int)] 37)) := (Below.refl we.heap.size we).drew.alloc (Nat.le_refl _) _
              have hrl : Rs (we.drew.alloc (.cells #[.int .u64 (x : Int), .int .u64 (y : Int)] 37)) (we.heap.size + 1) (some ⟨we.heap.size, 0, none⟩) [(x, y)] := rs_new_at we.drew (x, y) _ rfl
              have hol2 := HO2.out.below hbl
              have hbl2 : Below w1.heap.size w1 (we.drew.alloc (.cells #[.int .u64 (x : Int), .int .u64 (y : Int)] 37)) := HB3.out.trans (hbl.mono hbase3)
              refine hK.out _ _ (hbl2) (fun _ => ?_)
              clear hK K'
              refine wpAnyH_ready (rs := [12]) (by kernel_rfl) (by simp) (AllReadyH.cons (List.getElem?_toArray.trans rfl) (fun K' hK => ?_) AllReadyH.nil)
              refine step_app_rg rfl (.tmp 84) (.tmp 95) rfl w1.heap.size (.slice (some ⟨gn, 0, none⟩) (m + 1) cn) (o ++ [z]) rfl hol2 _ (some ⟨we.heap.size, 0, none⟩) 1 1 [(x, y)] rfl hrl rfl (by rw [HM1.out]; omega) hbl2.size ?_
              intro v5 w5 ho5 hg5 _
              have hb5 : Below w1.heap.size w1 w5 := hbl2.grown hg5 hbl2.size (fun q hq => (hol2.ge hq).1)
              refine hK.out _ _ (hb5) (fun _ => ?_)
              clear hK K'
              refine wpAnyH_take (i := 13) (v := v5) (List.getElem?_toArray.trans rfl) (by kernel_rfl) (by kernel_rfl) (by kernel_rfl) (fun _ _ _ h => h) (.inl ⟨rfl, fun w' hS => rfl⟩) hb5 ?_
              refine act_normS (by simp only [Act.put, List.setIfInBounds_toArray, List.set_cons_zero, List.set_cons_succ]; rfl) ?_
              refine wpAnyH_done (by kernel_rfl) ?_ _
              have HO5 := Lib.hid ho5
              have HB5 := Lib.hid hb5
              clear hG hbl hrl hol2 hbl2 ho5 hg5 hb5
              go_wp2
              go_roundw
              case rel => exact ⟨_, k + 1, (o ++ [z]) ++ [(x, y)], rfl, by go_num, by omega, Lib.hid (HNX.out _ (HMT.out.anew HCW.out.1 HCW.out.2 (by rw [HWX.out, HKK.out]; rfl) (fun o' z' e => by have h9 := (List.append_inj' e rfl).2; simp at h9; rw [← h9]; exact HZX.out)) (by rw [List.length_append, HM1.out]; simp; omega)), HO5, HB5⟩
              case measure => simp [intOf]; omega
      · have hq1 : (kind == 1) = true := by rw [hkd]; rfl
        have hq2 : (kind == 2) = false := by rw [hkd]; rfl
        have HKK := Lib.hid hkd
        clear hkd
        cases xb <;> cases yb
        · obtain ⟨A9, c9, rfl, _, _⟩ := HO1.out.form
          go_wp2
          go_quiet (fail)
          have HO2 := Lib.hid (HO1.out.below (below_drewN (Below.refl _ _) nq))
          have HB3 := Lib.hid (below_drewN HB2.out nq)
          go_wp2
          go_roundw
          case rel => exact ⟨_, k + 1, out, rfl, by go_num, by omega, Lib.hid (HNX.out out (HMT.out.skip HCW.out.1 HCW.out.2 (by rw [HWX.out, HKK.out]; rfl)) (by omega)), HO2, HB3⟩
          case measure => simp [intOf]; omega
        · obtain ⟨A9, c9, rfl, _, _⟩ := HO1.out.form
          go_wp2
          go_quiet (fail)
          have HO2 := Lib.hid (HO1.out.below (below_drewN (Below.refl _ _) nq))
          have HB3 := Lib.hid (below_drewN HB2.out nq)
          go_wp2
          go_roundw
          case rel => exact ⟨_, k + 1, out, rfl, by go_num, by omega, Lib.hid (HNX.out out (HMT.out.skip HCW.out.1 HCW.out.2 (by rw [HWX.out, HKK.out]; rfl)) (by omega)), HO2, HB3⟩
          case measure => simp [intOf]; omega
        · rcases List.eq_nil_or_concat out with rfl | ⟨o, z, rfl⟩
          · obtain ⟨A9, c9, rfl, _, _⟩ := HO1.out.form
            simp only [List.length_nil] at *
            go_wp2
            go_quiet (fail)
            have hd0 := below_drewN (Below.refl wd.heap.size wd) nq
            have HO2 := Lib.hid (HO1.out.below hd0)
            have HB3 := Lib.hid (below_drewN HB2.out nq)
            have hx3 := (hd0.cell (p := ⟨g, off + k, none⟩) hgr).trans hx2
            have hy3 := (hd0.cell (p := ⟨g, off + (k + 1), none⟩) hgr).trans hy2
            have hbase3 : w1.heap.size ≤ (wd.drewN nq).heap.size := Nat.le_trans hbase2 hd0.size
            clear hx2 hy2 hgr hd0 HO1 HB2 hbase2
            generalize wd.drewN nq = we at *
            go_wp2
            have hG : Below w1.heap.size w1 we.drew := HB3.out.drew
            refine wp_region_held_drew (S := fun w' => Below w1.heap.size w1 w') (by kernel_rfl) hG (fun _ => ?_)
            refine wpAnyH_take (i := 0) (v := .slice A9 0 c9) (List.getElem?_toArray.trans rfl) (by kernel_rfl) (by kernel_rfl) (by kernel_rfl) (fun _ _ _ h => h) (.inl ⟨rfl, fun w' hS => rfl⟩) hG ?_
            refine act_normS (by simp only [Act.put, List.setIfInBounds_toArray, List.set_cons_zero, List.set_cons_succ]; rfl) ?_
            refine wpAnyH_take (i := 1) (v := .slice (some ⟨g, off, none⟩) len c) (List.getElem?_toArray.trans rfl) (by kernel_rfl) (by kernel_rfl) (by kernel_rfl) (fun _ _ _ h => h) (.inl ⟨rfl, fun w' hS => rfl⟩) hG ?_
            refine act_normS (by simp only [Act.put, List.setIfInBounds_toArray, List.set_cons_zero, List.set_cons_succ]; rfl) ?_
            refine wpAnyH_take (i := 2) (v := .int .i64 (k : Int)) (List.getElem?_toArray.trans rfl) (by kernel_rfl) (by kernel_rfl) (by kernel_rfl) (fun _ _ _ h => h) (.inl ⟨rfl, fun w' hS => rfl⟩) hG ?_
            refine act_normS (by simp only [Act.put, List.setIfInBounds_toArray, List.set_cons_zero, List.set_cons_succ]; rfl) ?_
            refine wpAnyH_take (i := 3) (v := .pointer (some ⟨g, off + k, none⟩)) (List.getElem?_toArray.trans rfl) (by kernel_rfl) (by kernel_rfl) (by kernel_rfl) (fun _ _ _ h => h) (.inl ⟨rfl, fun w' hS => by simp [go_sem, hkl]⟩) hG ?_
            refine act_normS (by simp only [Act.put, List.setIfInBounds_toArray, List.set_cons_zero, List.set_cons_succ]; rfl) ?_
            refine wpAnyH_take (i := 4) (v := .int .u64 (x : Int)) (List.getElem?_toArray.trans rfl) (by kernel_rfl) (by kernel_rfl) (by kernel_rfl) (fun _ _ _ h => h) (.inl ⟨rfl, fun w' hS => by have hc := (hS.cell (p := ⟨g, off + k, none⟩) hg).trans hx0; simp [go_sem, hc]⟩) hG ?_
            refine act_normS (by simp only [Act.put, List.setIfInBounds_toArray, List.set_cons_zero, List.set_cons_succ]; rfl) ?_
            refine wpAnyH_take (i := 5) (v := .slice (some ⟨g, off, none⟩) len c) (List.getElem?_toArray.trans rfl) (by kernel_rfl) (by kernel_rfl) (by kernel_rfl) (fun _ _ _ h => h) (.inl ⟨rfl, fun w' hS => rfl⟩) hG ?_
            refine act_normS (by simp only [Act.put, List.setIfInBounds_toArray, List.set_cons_zero, List.set_cons_succ]; rfl) ?_
            refine wpAnyH_take (i := 6) (v := .int .i64 (k : Int)) (List.getElem?_toArray.trans rfl) (by kernel_rfl) (by kernel_rfl) (by kernel_rfl) (fun _ _ _ h => h) (.inl ⟨rfl, fun w' hS => rfl⟩) hG ?_
            refine act_normS (by simp only [Act.put, List.setIfInBounds_toArray, List.set_cons_zero, List.set_cons_succ]; rfl) ?_
            refine wpAnyH_take (i := 7) (v := .int .i64 ((k : Int) + 1)) (List.getElem?_toArray.trans rfl) (by kernel_rfl) (by kernel_rfl) (by kernel_rfl) (fun _ _ _ h => h) (.inl ⟨rfl, fun w' hS => by simp [go_sem, hwi]⟩) hG ?_
            refine act_normS (by simp only [Act.put, List.setIfInBounds_toArray, List.set_cons_zero, List.set_cons_succ]; rfl) ?_
            refine wpAnyH_take (i := 8) (v := .pointer (some ⟨g, off + (k + 1), none⟩)) (List.getElem?_toArray.trans rfl) (by kernel_rfl) (by kernel_rfl) (by kernel_rfl) (fun _ _ _ h => h) (.inl ⟨rfl, fun w' hS => by simp [go_sem, htn, hnn, hni]⟩) hG ?_
            refine act_normS (by simp only [Act.put, List.setIfInBounds_toArray, List.set_cons_zero, List.set_cons_succ]; rfl) ?_
            refine wpAnyH_take (i := 9) (v := .int .u64 (y : Int)) (List.getElem?_toArray.trans rfl) (by kernel_rfl) (by kernel_rfl) (by kernel_rfl) (fun _ _ _ h => h) (.inl ⟨rfl, fun w' hS => by have hc := (hS.cell (p := ⟨g, off + (k + 1), none⟩) hg).trans hy0; simp [go_sem, hc]⟩) hG ?_
            refine act_normS (by simp only [Act.put, List.setIfInBounds_toArray, List.set_cons_zero, List.set_cons_succ]; rfl) ?_
            refine wpAnyH_take (i := 10) (v := .agg #[.int .u64 (x : Int), .int .u64 (y : Int)]) (List.getElem?_toArray.trans rfl) (by kernel_rfl) (by kernel_rfl) (by kernel_rfl) (fun _ _ _ h => h) (.inl ⟨rfl, fun w' hS => by simp [go_sem]⟩) hG ?_
            refine act_normS (by simp only [Act.put, List.setIfInBounds_toArray, List.set_cons_zero, List.set_cons_succ]; rfl) ?_
            refine wpAnyH_ready (rs := [11]) (by kernel_rfl) (by simp) (AllReadyH.cons (List.getElem?_toArray.trans rfl) (fun K' hK => ?_) AllReadyH.nil)
            refine wanted_goS rfl ?_
            go_simp
            have hbl : Below we.heap.size we (we.drew.alloc (.cells #[.int .u64 (x : Int), .int .u64 (y : Int)] 37)) := (Below.refl we.heap.size we).drew.alloc (Nat.le_refl _) _
            have hrl : Rs (we.drew.alloc (.cells #[.int .u64 (x : Int), .int .u64 (y : Int)] 37)) (we.heap.size + 1) (some ⟨we.heap.size, 0, none⟩) [(x, y)] := rs_new_at we.drew (x, y) _ rfl
            have hol2 := HO2.out.below hbl
            have hbl2 : Below w1.heap.size w1 (we.drew.alloc (.cells #[.int .u64 (x : Int), .int .u64 (y : Int)] 37)) := HB3.out.trans (hbl.mono hbase3)
            refine hK.out _ _ (hbl2) (fun _ => ?_)
            clear hK K'
            refine wpAnyH_ready (rs := [12]) (by kernel_rfl) (by simp) (AllReadyH.cons (List.getElem?_toArray.trans rfl) (fun K' hK => ?_) AllReadyH.nil)
            refine step_app_rg rfl (.tmp 84) (.tmp 95) rfl w1.heap.size (.slice A9 0 c9) [] rfl hol2 _ (some ⟨we.heap.size, 0, none⟩) 1 1 [(x, y)] rfl hrl rfl (by simp) hbl2.size ?_
            intro v5 w5 ho5 hg5 _
            have hb5 : Below w1.heap.size w1 w5 := hbl2.grown hg5 hbl2.size (fun q hq => (hol2.ge hq).1)
            refine hK.out _ _ (hb5) (fun _ => ?_)
            clear hK K'
            refine wpAnyH_take (i := 13) (v := v5) (List.getElem?_toArray.trans rfl) (by kernel_rfl) (by kernel_rfl) (by kernel_rfl) (fun _ _ _ h => h) (.inl ⟨rfl, fun w' hS => rfl⟩) hb5 ?_
            refine act_normS (by simp only [Act.put, List.setIfInBounds_toArray, List.set_cons_zero, List.set_cons_succ]; rfl) ?_
            refine wpAnyH_done (by kernel_rfl) ?_ _
            have HO5 := Lib.hid ho5
            have HB5 := Lib.hid hb5
            clear hG hbl hrl hol2 hbl2 ho5 hg5 hb5
            go_wp2
            go_roundw
            case rel => exact ⟨_, k + 1, [] ++ [(x, y)], rfl, by go_num, by omega, Lib.hid (HNX.out _ (HMT.out.anew HCW.out.1 HCW.out.2 (by rw [HWX.out, HKK.out]; rfl) (fun o z e => by simp at e)) (by simp)), HO5, HB5⟩
            case measure => simp [intOf]; omega
          · rw [List.concat_eq_append] at *
            obtain ⟨m, hmi⟩ : ∃ m, m = o.length := ⟨_, rfl⟩
            have hm : (o ++ [z]).length = m + 1 := by simp [hmi]
            have hm2 : m < k := by omega
            have d0 : decide ((m : Int) < 0) = false := decide_eq_false (by omega)
            have d3 : (m : Int) < (m : Int) + 1 := by omega
            have d4 : decide ((m : Int) + 1 > 0) = true := decide_eq_true (by omega)
            obtain ⟨gn, cn, cur, hvn, hgn, hnc, hcn, hwn, hsz', _⟩ := ownR_some HO1.out (by omega)
            have hv7 := hvn
            rw [hm] at hnc hv7
            subst hv7
            have hz0 : (o ++ [z])[m]? = some z := by simp [hmi]
            have hzc := (RowAt.cell (n := (o ++ [z]).length) (by unfold RowAt; rw [← hvn]; exact HO1.out) hz0).2
            have hfz := hwn.frozen (m * 2 + 1)
            have hgl := hwn.lt
            have hum : IntKind.i64.wrap (((m : Int) + 1) - 1) = (m : Int) := by rw [show ((m : Int) + 1) - 1 = (m : Int) by omega]; exact IntWalk.i64_in _ (by omega)
            unfold maxLen at hcn
            have HMI := Lib.hid hmi
            have HM1 := Lib.hid hm
            clear hwn hz0 hsz' hmi hm hvn
            by_cases hzx : z.2 = x
            · have t5 : ((z.2 : Int) == (x : Int)) = true := by rw [beq_iff_eq]; omega
              have HZX := Lib.hid hzx
              clear hzx
              go_wp2
              go_quiet (fail)
              have hd0 := below_drewN (Below.refl wd.heap.size wd) nq
              have HO2 := Lib.hid (HO1.out.below hd0)
              have HB3 := Lib.hid (below_drewN HB2.out nq)
              have hx3 := (hd0.cell (p := ⟨g, off + k, none⟩) hgr).trans hx2
              have hy3 := (hd0.cell (p := ⟨g, off + (k + 1), none⟩) hgr).trans hy2
              have hbase3 : w1.heap.size ≤ (wd.drewN nq).heap.size := Nat.le_trans hbase2 hd0.size
              have hz3 := (hd0.cell (p := ⟨gn, m * 2 + 1, none⟩) hgl).trans hzc
              have hf3 := (hd0.frozen (p := ⟨gn, m * 2 + 1, none⟩) hgl).trans hfz
              clear hx2 hy2 hgr hd0 HO1 HB2 hbase2 hzc hfz hgl
              generalize wd.drewN nq = we at *
              go_wp2
              go_roundw
              case rel =>
                have h1 := HO2.out
                unfold OwR at h1
                rw [HM1.out] at h1
                have h2 := ownR_set h1 m z y (by rw [HMI.out]; simp)
                have h3 : (o ++ [z]).set m (z.1, y) = o ++ [(z.1, y)] := by rw [HMI.out]; simp
                rw [h3] at h2
                refine ⟨_, k + 1, o ++ [(z.1, y)], rfl, by go_num, by omega, Lib.hid (HNX.out _ (HMT.out.longer HCW.out.1 HCW.out.2 (by rw [HWX.out, HKK.out]; rfl) HZX.out) (by simp [← HMI.out]; omega)), Lib.hid ?_, Lib.hid (HB3.out.grown (grown_set _ _ _ _) HB3.out.size (fun q hq => by have := Option.some.inj hq; omega))⟩
                unfold OwR
                rw [show (o ++ [(z.1, y)]).length = m + 1 by simp [HMI.out]]
                exact h2
              case measure => simp [intOf]; omega
            · have t5 : ((z.2 : Int) == (x : Int)) = false := by rw [beq_eq_false_iff_ne]; omega
              have HZX := Lib.hid hzx
              clear hzx
              go_wp2
              go_quiet (fail)
              have hd0 := below_drewN (Below.refl wd.heap.size wd) nq
              have HO2 := Lib.hid (HO1.out.below hd0)
              have HB3 := Lib.hid (below_drewN HB2.out nq)
              have hx3 := (hd0.cell (p := ⟨g, off + k, none⟩) hgr).trans hx2
              have hy3 := (hd0.cell (p := ⟨g, off + (k + 1), none⟩) hgr).trans hy2
              have hbase3 : w1.heap.size ≤ (wd.drewN nq).heap.size := Nat.le_trans hbase2 hd0.size
              clear hx2 hy2 hgr hd0 HO1 HB2 hbase2
              generalize wd.drewN nq = we at *
              go_wp2
              have hG : Below w1.heap.size w1 we.drew := HB3.out.drew
              refine wp_region_held_drew (S := fun w' => Below w1.heap.size w1 w') (by kernel_rfl) hG (fun _ => ?_)
              refine wpAnyH_take (i := 0) (v := .slice (some ⟨gn, 0, none⟩) (m + 1) cn) (List.getElem?_toArray.trans rfl) (by kernel_rfl) (by kernel_rfl) (by kernel_rfl) (fun _ _ _ h => h) (.inl ⟨rfl, fun w' hS => rfl⟩) hG ?_
              refine act_normS (by simp only [Act.put, List.setIfInBounds_toArray, List.set_cons_zero, List.set_cons_succ]; rfl) ?_
              refine wpAnyH_take (i := 1) (v := .slice (some ⟨g, off, none⟩) len c) (List.getElem?_toArray.trans rfl) (by kernel_rfl) (by kernel_rfl) (by kernel_rfl) (fun _ _ _ h => h) (.inl ⟨rfl, fun w' hS => rfl⟩) hG ?_
              refine act_normS (by simp only [Act.put, List.setIfInBounds_toArray, List.set_cons_zero, List.set_cons_succ]; rfl) ?_
              refine wpAnyH_take (i := 2) (v := .int .i64 (k : Int)) (List.getElem?_toArray.trans rfl) (by kernel_rfl) (by kernel_rfl) (by kernel_rfl) (fun _ _ _ h => h) (.inl ⟨rfl, fun w' hS => rfl⟩) hG ?_
              refine act_normS (by simp only [Act.put, List.setIfInBounds_toArray, List.set_cons_zero, List.set_cons_succ]; rfl) ?_
              refine wpAnyH_take (i := 3) (v := .pointer (some ⟨g, off + k, none⟩)) (List.getElem?_toArray.trans rfl) (by kernel_rfl) (by kernel_rfl) (by kernel_rfl) (fun _ _ _ h => h) (.inl ⟨rfl, fun w' hS => by simp [go_sem, hkl]⟩) hG ?_
              refine act_normS (by simp only [Act.put, List.setIfInBounds_toArray, List.set_cons_zero, List.set_cons_succ]; rfl) ?_
              refine wpAnyH_take (i := 4) (v := .int .u64 (x : Int)) (List.getElem?_toArray.trans rfl) (by kernel_rfl) (by kernel_rfl) (by kernel_rfl) (fun _ _ _ h => h) (.inl ⟨rfl, fun w' hS => by have hc := (hS.cell (p := ⟨g, off + k, none⟩) hg).trans hx0; simp [go_sem, hc]⟩) hG ?_
              refine act_normS (by simp only [Act.put, List.setIfInBounds_toArray, List.set_cons_zero, List.set_cons_succ]; rfl) ?_
              refine wpAnyH_take (i := 5) (v := .slice (some ⟨g, off, none⟩) len c) (List.getElem?_toArray.trans rfl) (by kernel_rfl) (by kernel_rfl) (by kernel_rfl) (fun _ _ _ h => h) (.inl ⟨rfl, fun w' hS => rfl⟩) hG ?_
              refine act_normS (by simp only [Act.put, List.setIfInBounds_toArray, List.set_cons_zero, List.set_cons_succ]; rfl) ?_
              refine wpAnyH_take (i := 6) (v := .int .i64 (k : Int)) (List.getElem?_toArray.trans rfl) (by kernel_rfl) (by kernel_rfl) (by kernel_rfl) (fun _ _ _ h => h) (.inl ⟨rfl, fun w' hS => rfl⟩) hG ?_
              refine act_normS (by simp only [Act.put, List.setIfInBounds_toArray, List.set_cons_zero, List.set_cons_succ]; rfl) ?_
              refine wpAnyH_take (i := 7) (v := .int .i64 ((k : Int) + 1)) (List.getElem?_toArray.trans rfl) (by kernel_rfl) (by kernel_rfl) (by kernel_rfl) (fun _ _ _ h => h) (.inl ⟨rfl, fun w' hS => by simp [go_sem, hwi]⟩) hG ?_
              refine act_normS (by simp only [Act.put, List.setIfInBounds_toArray, List.set_cons_zero, List.set_cons_succ]; rfl) ?_
              refine wpAnyH_take (i := 8) (v := .pointer (some ⟨g, off + (k + 1), none⟩)) (List.getElem?_toArray.trans rfl) (by kernel_rfl) (by kernel_rfl) (by kernel_rfl) (fun _ _ _ h => h) (.inl ⟨rfl, fun w' hS => by simp [go_sem, htn, hnn, hni]⟩) hG ?_
              refine act_normS (by simp only [Act.put, List.setIfInBounds_toArray, List.set_cons_zero, List.set_cons_succ]; rfl) ?_
              refine wpAnyH_take (i := 9) (v := .int .u64 (y : Int)) (List.getElem?_toArray.trans rfl) (by kernel_rfl) (by kernel_rfl) (by kernel_rfl) (fun _ _ _ h => h) (.inl ⟨rfl, fun w' hS => by have hc := (hS.cell (p := ⟨g, off + (k + 1), none⟩) hg).trans hy0; simp [go_sem, hc]⟩) hG ?_
              refine act_normS (by simp only [Act.put, List.setIfInBounds_toArray, List.set_cons_zero, List.set_cons_succ]; rfl) ?_
              refine wpAnyH_take (i := 10) (v := .agg #[.int .u64 (x : Int), .int .u64 (y : Int)]) (List.getElem?_toArray.trans rfl) (by kernel_rfl) (by kernel_rfl) (by kernel_rfl) (fun _ _ _ h => h) (.inl ⟨rfl, fun w' hS => by simp [go_sem]⟩) hG ?_
              refine act_normS (by simp only [Act.put, List.setIfInBounds_toArray, List.set_cons_zero, List.set_cons_succ]; rfl) ?_
              refine wpAnyH_ready (rs := [11]) (by kernel_rfl) (by simp) (AllReadyH.cons (List.getElem?_toArray.trans rfl) (fun K' hK => ?_) AllReadyH.nil)
              refine wanted_goS rfl ?_
              go_simp
              have hbl : Below we.heap.size we (we.drew.alloc (.cells #[.int .u64 (x : Int), .int .u64 (y : Int)] 37)) := (Below.refl we.heap.size we).drew.alloc (Nat.le_refl _) _
              have hrl : Rs (we.drew.alloc (.cells #[.int .u64 (x : Int), .int .u64 (y : Int)] 37)) (we.heap.size + 1) (some ⟨we.heap.size, 0, none⟩) [(x, y)] := rs_new_at we.drew (x, y) _ rfl
              have hol2 := HO2.out.below hbl
              have hbl2 : Below w1.heap.size w1 (we.drew.alloc (.cells #[.int .u64 (x : Int), .int .u64 (y : Int)] 37)) := HB3.out.trans (hbl.mono hbase3)
              refine hK.out _ _ (hbl2) (fun _ => ?_)
              clear hK K'
              refine wpAnyH_ready (rs := [12]) (by kernel_rfl) (by simp) (AllReadyH.cons (List.getElem?_toArray.trans rfl) (fun K' hK => ?_) AllReadyH.nil)
              refine step_app_rg rfl (.tmp 84) (.tmp 95) rfl w1.heap.size (.slice (some ⟨gn, 0, none⟩) (m + 1) cn) (o ++ [z]) rfl hol2 _ (some ⟨we.heap.size, 0, none⟩) 1 1 [(x, y)] rfl hrl rfl (by rw [HM1.out]; omega) hbl2.size ?_
              intro v5 w5 ho5 hg5 _
              have hb5 : Below w1.heap.size w1 w5 := hbl2.grown hg5 hbl2.size (fun q hq => (hol2.ge hq).1)
              refine hK.out _ _ (hb5) (fun _ => ?_)
              clear hK K'
              refine wpAnyH_take (i := 13) (v := v5) (List.getElem?_toArray.trans rfl) (by kernel_rfl) (by kernel_rfl) (by kernel_rfl) (fun _ _ _ h => h) (.inl ⟨rfl, fun w' hS => rfl⟩) hb5 ?_
              refine act_normS (by simp only [Act.put, List.setIfInBounds_toArray, List.set_cons_zero, List.set_cons_succ]; rfl) ?_
              refine wpAnyH_done (by kernel_rfl) ?_ _
              have HO5 := Lib.hid ho5
              have HB5 := Lib.hid hb5
              clear hG hbl hrl hol2 hbl2 ho5 hg5 hb5
              go_wp2
              go_roundw
              case rel => exact ⟨_, k + 1, (o ++ [z]) ++ [(x, y)], rfl, by go_num, by omega, Lib.hid (HNX.out _ (HMT.out.anew HCW.out.1 HCW.out.2 (by rw [HWX.out, HKK.out]; rfl) (fun o' z' e => by have h9 := (List.append_inj' e rfl).2; simp at h9; rw [← h9]; exact HZX.out)) (by rw [List.length_append, HM1.out]; simp; omega)), HO5, HB5⟩
              case measure => simp [intOf]; omega
        · obtain ⟨A9, c9, rfl, _, _⟩ := HO1.out.form
          go_wp2
          go_quiet (fail)
          have HO2 := Lib.hid (HO1.out.below (below_drewN (Below.refl _ _) nq))
          have HB3 := Lib.hid (below_drewN HB2.out nq)
          go_wp2
          go_roundw
          case rel => exact ⟨_, k + 1, out, rfl, by go_num, by omega, Lib.hid (HNX.out out (HMT.out.skip HCW.out.1 HCW.out.2 (by rw [HWX.out, HKK.out]; rfl)) (by omega)), HO2, HB3⟩
          case measure => simp [intOf]; omega
      · have hq1 : (kind == 1) = false := by rw [hkd]; rfl
        have hq2 : (kind == 2) = true := by rw [hkd]; rfl
        have HKK := Lib.hid hkd
        clear hkd
        cases xb <;> cases yb
        · obtain ⟨A9, c9, rfl, _, _⟩ := HO1.out.form
          go_wp2
          go_quiet (fail)
          have HO2 := Lib.hid (HO1.out.below (below_drewN (Below.refl _ _) nq))
          have HB3 := Lib.hid (below_drewN HB2.out nq)
          go_wp2
          go_roundw
          case rel => exact ⟨_, k + 1, out, rfl, by go_num, by omega, Lib.hid (HNX.out out (HMT.out.skip HCW.out.1 HCW.out.2 (by rw [HWX.out, HKK.out]; rfl)) (by omega)), HO2, HB3⟩
          case measure => simp [intOf]; omega
        · obtain ⟨A9, c9, rfl, _, _⟩ := HO1.out.form
          go_wp2
          go_quiet (fail)
          have HO2 := Lib.hid (HO1.out.below (below_drewN (Below.refl _ _) nq))
          have HB3 := Lib.hid (below_drewN HB2.out nq)
          go_wp2
          go_roundw
          case rel => exact ⟨_, k + 1, out, rfl, by go_num, by omega, Lib.hid (HNX.out out (HMT.out.skip HCW.out.1 HCW.out.2 (by rw [HWX.out, HKK.out]; rfl)) (by omega)), HO2, HB3⟩
          case measure => simp [intOf]; omega
        · obtain ⟨A9, c9, rfl, _, _⟩ := HO1.out.form
          go_wp2
          go_quiet (fail)
          have HO2 := Lib.hid (HO1.out.below (below_drewN (Below.refl _ _) nq))
          have HB3 := Lib.hid (below_drewN HB2.out nq)
          go_wp2
          go_roundw
          case rel => exact ⟨_, k + 1, out, rfl, by go_num, by omega, Lib.hid (HNX.out out (HMT.out.skip HCW.out.1 HCW.out.2 (by rw [HWX.out, HKK.out]; rfl)) (by omega)), HO2, HB3⟩
          case measure => simp [intOf]; omega
        · rcases List.eq_nil_or_concat out with rfl | ⟨o, z, rfl⟩
          · obtain ⟨A9, c9, rfl, _, _⟩ := HO1.out.form
            simp only [List.length_nil] at *
            go_wp2
            go_quiet (fail)
            have hd0 := below_drewN (Below.refl wd.heap.size wd) nq
            have HO2 := Lib.hid (HO1.out.below hd0)
            have HB3 := Lib.hid (below_drewN HB2.out nq)
            have hx3 := (hd0.cell (p := ⟨g, off + k, none⟩) hgr).trans hx2
            have hy3 := (hd0.cell (p := ⟨g, off + (k + 1), none⟩) hgr).trans hy2
            have hbase3 : w1.heap.size ≤ (wd.drewN nq).heap.size := Nat.le_trans hbase2 hd0.size
            clear hx2 hy2 hgr hd0 HO1 HB2 hbase2
            generalize wd.drewN nq = we at *
            go_wp2
            have hG : Below w1.heap.size w1 we.drew := HB3.out.drew
            refine wp_region_held_drew (S := fun w' => Below w1.heap.size w1 w') (by kernel_rfl) hG (fun _ => ?_)
            refine wpAnyH_take (i := 0) (v := .slice A9 0 c9) (List.getElem?_toArray.trans rfl) (by kernel_rfl) (by kernel_rfl) (by kernel_rfl) (fun _ _ _ h => h) (.inl ⟨rfl, fun w' hS => rfl⟩) hG ?_
            refine act_normS (by simp only [Act.put, List.setIfInBounds_toArray, List.set_cons_zero, List.set_cons_succ]; rfl) ?_
            refine wpAnyH_take (i := 1) (v := .slice (some ⟨g, off, none⟩) len c) (List.getElem?_toArray.trans rfl) (by kernel_rfl) (by kernel_rfl) (by kernel_rfl) (fun _ _ _ h => h) (.inl ⟨rfl, fun w' hS => rfl⟩) hG ?_
            refine act_normS (by simp only [Act.put, List.setIfInBounds_toArray, List.set_cons_zero, List.set_cons_succ]; rfl) ?_
            refine wpAnyH_take (i := 2) (v := .int .i64 (k : Int)) (List.getElem?_toArray.trans rfl) (by kernel_rfl) (by kernel_rfl) (by kernel_rfl) (fun _ _ _ h => h) (.inl ⟨rfl, fun w' hS => rfl⟩) hG ?_
            refine act_normS (by simp only [Act.put, List.setIfInBounds_toArray, List.set_cons_zero, List.set_cons_succ]; rfl) ?_
            refine wpAnyH_take (i := 3) (v := .pointer (some ⟨g, off + k, none⟩)) (List.getElem?_toArray.trans rfl) (by kernel_rfl) (by kernel_rfl) (by kernel_rfl) (fun _ _ _ h => h) (.inl ⟨rfl, fun w' hS => by simp [go_sem, hkl]⟩) hG ?_
            refine act_normS (by simp only [Act.put, List.setIfInBounds_toArray, List.set_cons_zero, List.set_cons_succ]; rfl) ?_
            refine wpAnyH_take (i := 4) (v := .int .u64 (x : Int)) (List.getElem?_toArray.trans rfl) (by kernel_rfl) (by kernel_rfl) (by kernel_rfl) (fun _ _ _ h => h) (.inl ⟨rfl, fun w' hS => by have hc := (hS.cell (p := ⟨g, off + k, none⟩) hg).trans hx0; simp [go_sem, hc]⟩) hG ?_
            refine act_normS (by simp only [Act.put, List.setIfInBounds_toArray, List.set_cons_zero, List.set_cons_succ]; rfl) ?_
            refine wpAnyH_take (i := 5) (v := .slice (some ⟨g, off, none⟩) len c) (List.getElem?_toArray.trans rfl) (by kernel_rfl) (by kernel_rfl) (by kernel_rfl) (fun _ _ _ h => h) (.inl ⟨rfl, fun w' hS => rfl⟩) hG ?_
            refine act_normS (by simp only [Act.put, List.setIfInBounds_toArray, List.set_cons_zero, List.set_cons_succ]; rfl) ?_
            refine wpAnyH_take (i := 6) (v := .int .i64 (k : Int)) (List.getElem?_toArray.trans rfl) (by kernel_rfl) (by kernel_rfl) (by kernel_rfl) (fun _ _ _ h => h) (.inl ⟨rfl, fun w' hS => rfl⟩) hG ?_
            refine act_normS (by simp only [Act.put, List.setIfInBounds_toArray, List.set_cons_zero, List.set_cons_succ]; rfl) ?_
            refine wpAnyH_take (i := 7) (v := .int .i64 ((k : Int) + 1)) (List.getElem?_toArray.trans rfl) (by kernel_rfl) (by kernel_rfl) (by kernel_rfl) (fun _ _ _ h => h) (.inl ⟨rfl, fun w' hS => by simp [go_sem, hwi]⟩) hG ?_
            refine act_normS (by simp only [Act.put, List.setIfInBounds_toArray, List.set_cons_zero, List.set_cons_succ]; rfl) ?_
            refine wpAnyH_take (i := 8) (v := .pointer (some ⟨g, off + (k + 1), none⟩)) (List.getElem?_toArray.trans rfl) (by kernel_rfl) (by kernel_rfl) (by kernel_rfl) (fun _ _ _ h => h) (.inl ⟨rfl, fun w' hS => by simp [go_sem, htn, hnn, hni]⟩) hG ?_
            refine act_normS (by simp only [Act.put, List.setIfInBounds_toArray, List.set_cons_zero, List.set_cons_succ]; rfl) ?_
            refine wpAnyH_take (i := 9) (v := .int .u64 (y : Int)) (List.getElem?_toArray.trans rfl) (by kernel_rfl) (by kernel_rfl) (by kernel_rfl) (fun _ _ _ h => h) (.inl ⟨rfl, fun w' hS => by have hc := (hS.cell (p := ⟨g, off + (k + 1), none⟩) hg).trans hy0; simp [go_sem, hc]⟩) hG ?_
            refine act_normS (by simp only [Act.put, List.setIfInBounds_toArray, List.set_cons_zero, List.set_cons_succ]; rfl) ?_
            refine wpAnyH_take (i := 10) (v := .agg #[.int .u64 (x : Int), .int .u64 (y : Int)]) (List.getElem?_toArray.trans rfl) (by kernel_rfl) (by kernel_rfl) (by kernel_rfl) (fun _ _ _ h => h) (.inl ⟨rfl, fun w' hS => by simp [go_sem]⟩) hG ?_
            refine act_normS (by simp only [Act.put, List.setIfInBounds_toArray, List.set_cons_zero, List.set_cons_succ]; rfl) ?_
            refine wpAnyH_ready (rs := [11]) (by kernel_rfl) (by simp) (AllReadyH.cons (List.getElem?_toArray.trans rfl) (fun K' hK => ?_) AllReadyH.nil)
            refine wanted_goS rfl ?_
            go_simp
            have hbl : Below we.heap.size we (we.drew.alloc (.cells #[.int .u64 (x : Int), .int .u64 (y : Int)] 37)) := (Below.refl we.heap.size we).drew.alloc (Nat.le_refl _) _
            have hrl : Rs (we.drew.alloc (.cells #[.int .u64 (x : Int), .int .u64 (y : Int)] 37)) (we.heap.size + 1) (some ⟨we.heap.size, 0, none⟩) [(x, y)] := rs_new_at we.drew (x, y) _ rfl
            have hol2 := HO2.out.below hbl
            have hbl2 : Below w1.heap.size w1 (we.drew.alloc (.cells #[.int .u64 (x : Int), .int .u64 (y : Int)] 37)) := HB3.out.trans (hbl.mono hbase3)
            refine hK.out _ _ (hbl2) (fun _ => ?_)
            clear hK K'
            refine wpAnyH_ready (rs := [12]) (by kernel_rfl) (by simp) (AllReadyH.cons (List.getElem?_toArray.trans rfl) (fun K' hK => ?_) AllReadyH.nil)
            refine step_app_rg rfl (.tmp 84) (.tmp 95) rfl w1.heap.size (.slice A9 0 c9) [] rfl hol2 _ (some ⟨we.heap.size, 0, none⟩) 1 1 [(x, y)] rfl hrl rfl (by simp) hbl2.size ?_
            intro v5 w5 ho5 hg5 _
            have hb5 : Below w1.heap.size w1 w5 := hbl2.grown hg5 hbl2.size (fun q hq => (hol2.ge hq).1)
            refine hK.out _ _ (hb5) (fun _ => ?_)
            clear hK K'
            refine wpAnyH_take (i := 13) (v := v5) (List.getElem?_toArray.trans rfl) (by kernel_rfl) (by kernel_rfl) (by kernel_rfl) (fun _ _ _ h => h) (.inl ⟨rfl, fun w' hS => rfl⟩) hb5 ?_
            refine act_normS (by simp only [Act.put, List.setIfInBounds_toArray, List.set_cons_zero, List.set_cons_succ]; rfl) ?_
            refine wpAnyH_done (by kernel_rfl) ?_ _
            have HO5 := Lib.hid ho5
            have HB5 := Lib.hid hb5
            clear hG hbl hrl hol2 hbl2 ho5 hg5 hb5
            go_wp2
            go_roundw
            case rel => exact ⟨_, k + 1, [] ++ [(x, y)], rfl, by go_num, by omega, Lib.hid (HNX.out _ (HMT.out.anew HCW.out.1 HCW.out.2 (by rw [HWX.out, HKK.out]; rfl) (fun o z e => by simp at e)) (by simp)), HO5, HB5⟩
            case measure => simp [intOf]; omega
          · rw [List.concat_eq_append] at *
            obtain ⟨m, hmi⟩ : ∃ m, m = o.length := ⟨_, rfl⟩
            have hm : (o ++ [z]).length = m + 1 := by simp [hmi]
            have hm2 : m < k := by omega
            have d0 : decide ((m : Int) < 0) = false := decide_eq_false (by omega)
            have d3 : (m : Int) < (m : Int) + 1 := by omega
            have d4 : decide ((m : Int) + 1 > 0) = true := decide_eq_true (by omega)
            obtain ⟨gn, cn, cur, hvn, hgn, hnc, hcn, hwn, hsz', _⟩ := ownR_some HO1.out (by omega)
            have hv7 := hvn
            rw [hm] at hnc hv7
            subst hv7
            have hz0 : (o ++ [z])[m]? = some z := by simp [hmi]
            have hzc := (RowAt.cell (n := (o ++ [z]).length) (by unfold RowAt; rw [← hvn]; exact HO1.out) hz0).2
            have hfz := hwn.frozen (m * 2 + 1)
            have hgl := hwn.lt
            have hum : IntKind.i64.wrap (((m : Int) + 1) - 1) = (m : Int) := by rw [show ((m : Int) + 1) - 1 = (m : Int) by omega]; exact IntWalk.i64_in _ (by omega)
            unfold maxLen at hcn
            have HMI := Lib.hid hmi
            have HM1 := Lib.hid hm
            clear hwn hz0 hsz' hmi hm hvn
            by_cases hzx : z.2 = x
            · have t5 : ((z.2 : Int) == (x : Int)) = true := by rw [beq_iff_eq]; omega
              have HZX := Lib.hid hzx
              clear hzx
              go_wp2
              go_quiet (fail)
              have hd0 := below_drewN (Below.refl wd.heap.size wd) nq
              have HO2 := Lib.hid (HO1.out.below hd0)
              have HB3 := Lib.hid (below_drewN HB2.out nq)
              have hx3 := (hd0.cell (p := ⟨g, off + k, none⟩) hgr).trans hx2
              have hy3 := (hd0.cell (p := ⟨g, off + (k + 1), none⟩) hgr).trans hy2
              have hbase3 : w1.heap.size ≤ (wd.drewN nq).heap.size := Nat.le_trans hbase2 hd0.size
              have hz3 := (hd0.cell (p := ⟨gn, m * 2 + 1, none⟩) hgl).trans hzc
              have hf3 := (hd0.frozen (p := ⟨gn, m * 2 + 1, none⟩) hgl).trans hfz
              clear hx2 hy2 hgr hd0 HO1 HB2 hbase2 hzc hfz hgl
              generalize wd.drewN nq = we at *
              go_wp2
              go_roundw
              case rel =>
                have h1 := HO2.out
                unfold OwR at h1
                rw [HM1.out] at h1
                have h2 := ownR_set h1 m z y (by rw [HMI.out]; simp)
                have h3 : (o ++ [z]).set m (z.1, y) = o ++ [(z.1, y)] := by rw [HMI.out]; simp
                rw [h3] at h2
                refine ⟨_, k + 1, o ++ [(z.1, y)], rfl, by go_num, by omega, Lib.hid (HNX.out _ (HMT.out.longer HCW.out.1 HCW.out.2 (by rw [HWX.out, HKK.out]; rfl) HZX.out) (by simp [← HMI.out]; omega)), Lib.hid ?_, Lib.hid (HB3.out.grown (grown_set _ _ _ _) HB3.out.size (fun q hq => by have := Option.some.inj hq; omega))⟩
                unfold OwR
                rw [show (o ++ [(z.1, y)]).length = m + 1 by simp [HMI.out]]
                exact h2
              case measure => simp [intOf]; omega
            · have t5 : ((z.2 : Int) == (x : Int)) = false := by rw [beq_eq_false_iff_ne]; omega
              have HZX := Lib.hid hzx
              clear hzx
              go_wp2
              go_quiet (fail)
              have hd0 := below_drewN (Below.refl wd.heap.size wd) nq
              have HO2 := Lib.hid (HO1.out.below hd0)
              have HB3 := Lib.hid (below_drewN HB2.out nq)
              have hx3 := (hd0.cell (p := ⟨g, off + k, none⟩) hgr).trans hx2
              have hy3 := (hd0.cell (p := ⟨g, off + (k + 1), none⟩) hgr).trans hy2
              have hbase3 : w1.heap.size ≤ (wd.drewN nq).heap.size := Nat.le_trans hbase2 hd0.size
              clear hx2 hy2 hgr hd0 HO1 HB2 hbase2
              generalize wd.drewN nq = we at *
              go_wp2
              have hG : Below w1.heap.size w1 we.drew := HB3.out.drew
              refine wp_region_held_drew (S := fun w' => Below w1.heap.size w1 w') (by kernel_rfl) hG (fun _ => ?_)
              refine wpAnyH_take (i := 0) (v := .slice (some ⟨gn, 0, none⟩) (m + 1) cn) (List.getElem?_toArray.trans rfl) (by kernel_rfl) (by kernel_rfl) (by kernel_rfl) (fun _ _ _ h => h) (.inl ⟨rfl, fun w' hS => rfl⟩) hG ?_
              refine act_normS (by simp only [Act.put, List.setIfInBounds_toArray, List.set_cons_zero, List.set_cons_succ]; rfl) ?_
              refine wpAnyH_take (i := 1) (v := .slice (some ⟨g, off, none⟩) len c) (List.getElem?_toArray.trans rfl) (by kernel_rfl) (by kernel_rfl) (by kernel_rfl) (fun _ _ _ h => h) (.inl ⟨rfl, fun w' hS => rfl⟩) hG ?_
              refine act_normS (by simp only [Act.put, List.setIfInBounds_toArray, List.set_cons_zero, List.set_cons_succ]; rfl) ?_
              refine wpAnyH_take (i := 2) (v := .int .i64 (k : Int)) (List.getElem?_toArray.trans rfl) (by kernel_rfl) (by kernel_rfl) (by kernel_rfl) (fun _ _ _ h => h) (.inl ⟨rfl, fun w' hS => rfl⟩) hG ?_
              refine act_normS (by simp only [Act.put, List.setIfInBounds_toArray, List.set_cons_zero, List.set_cons_succ]; rfl) ?_
              refine wpAnyH_take (i := 3) (v := .pointer (some ⟨g, off + k, none⟩)) (List.getElem?_toArray.trans rfl) (by kernel_rfl) (by kernel_rfl) (by kernel_rfl) (fun _ _ _ h => h) (.inl ⟨rfl, fun w' hS => by simp [go_sem, hkl]⟩) hG ?_
              refine act_normS (by simp only [Act.put, List.setIfInBounds_toArray, List.set_cons_zero, List.set_cons_succ]; rfl) ?_
              refine wpAnyH_take (i := 4) (v := .int .u64 (x : Int)) (List.getElem?_toArray.trans rfl) (by kernel_rfl) (by kernel_rfl) (by kernel_rfl) (fun _ _ _ h => h) (.inl ⟨rfl, fun w' hS => by have hc := (hS.cell (p := ⟨g, off + k, none⟩) hg).trans hx0; simp [go_sem, hc]⟩) hG ?_
              refine act_normS (by simp only [Act.put, List.setIfInBounds_toArray, List.set_cons_zero, List.set_cons_succ]; rfl) ?_
              refine wpAnyH_take (i := 5) (v := .slice (some ⟨g, off, none⟩) len c) (List.getElem?_toArray.trans rfl) (by kernel_rfl) (by kernel_rfl) (by kernel_rfl) (fun _ _ _ h => h) (.inl ⟨rfl, fun w' hS => rfl⟩) hG ?_
              refine act_normS (by simp only [Act.put, List.setIfInBounds_toArray, List.set_cons_zero, List.set_cons_succ]; rfl) ?_
              refine wpAnyH_take (i := 6) (v := .int .i64 (k : Int)) (List.getElem?_toArray.trans rfl) (by kernel_rfl) (by kernel_rfl) (by kernel_rfl) (fun _ _ _ h => h) (.inl ⟨rfl, fun w' hS => rfl⟩) hG ?_
              refine act_normS (by simp only [Act.put, List.setIfInBounds_toArray, List.set_cons_zero, List.set_cons_succ]; rfl) ?_
              refine wpAnyH_take (i := 7) (v := .int .i64 ((k : Int) + 1)) (List.getElem?_toArray.trans rfl) (by kernel_rfl) (by kernel_rfl) (by kernel_rfl) (fun _ _ _ h => h) (.inl ⟨rfl, fun w' hS => by simp [go_sem, hwi]⟩) hG ?_
              refine act_normS (by simp only [Act.put, List.setIfInBounds_toArray, List.set_cons_zero, List.set_cons_succ]; rfl) ?_
              refine wpAnyH_take (i := 8) (v := .pointer (some ⟨g, off + (k + 1), none⟩)) (List.getElem?_toArray.trans rfl) (by kernel_rfl) (by kernel_rfl) (by kernel_rfl) (fun _ _ _ h => h) (.inl ⟨rfl, fun w' hS => by simp [go_sem, htn, hnn, hni]⟩) hG ?_
              refine act_normS (by simp only [Act.put, List.setIfInBounds_toArray, List.set_cons_zero, List.set_cons_succ]; rfl) ?_
              refine wpAnyH_take (i := 9) (v := .int .u64 (y : Int)) (List.getElem?_toArray.trans rfl) (by kernel_rfl) (by kernel_rfl) (by kernel_rfl) (fun _ _ _ h => h) (.inl ⟨rfl, fun w' hS => by have hc := (hS.cell (p := ⟨g, off + (k + 1), none⟩) hg).trans hy0; simp [go_sem, hc]⟩) hG ?_
              refine act_normS (by simp only [Act.put, List.setIfInBounds_toArray, List.set_cons_zero, List.set_cons_succ]; rfl) ?_
              refine wpAnyH_take (i := 10) (v := .agg #[.int .u64 (x : Int), .int .u64 (y : Int)]) (List.getElem?_toArray.trans rfl) (by kernel_rfl) (by kernel_rfl) (by kernel_rfl) (fun _ _ _ h => h) (.inl ⟨rfl, fun w' hS => by simp [go_sem]⟩) hG ?_
              refine act_normS (by simp only [Act.put, List.setIfInBounds_toArray, List.set_cons_zero, List.set_cons_succ]; rfl) ?_
              refine wpAnyH_ready (rs := [11]) (by kernel_rfl) (by simp) (AllReadyH.cons (List.getElem?_toArray.trans rfl) (fun K' hK => ?_) AllReadyH.nil)
              refine wanted_goS rfl ?_
              go_simp
              have hbl : Below we.heap.size we (we.drew.alloc (.cells #[.int .u64 (x : Int), .int .u64 (y : Int)] 37)) := (Below.refl we.heap.size we).drew.alloc (Nat.le_refl _) _
              have hrl : Rs (we.drew.alloc (.cells #[.int .u64 (x : Int), .int .u64 (y : Int)] 37)) (we.heap.size + 1) (some ⟨we.heap.size, 0, none⟩) [(x, y)] := rs_new_at we.drew (x, y) _ rfl
              have hol2 := HO2.out.below hbl
              have hbl2 : Below w1.heap.size w1 (we.drew.alloc (.cells #[.int .u64 (x : Int), .int .u64 (y : Int)] 37)) := HB3.out.trans (hbl.mono hbase3)
              refine hK.out _ _ (hbl2) (fun _ => ?_)
              clear hK K'
              refine wpAnyH_ready (rs := [12]) (by kernel_rfl) (by simp) (AllReadyH.cons (List.getElem?_toArray.trans rfl) (fun K' hK => ?_) AllReadyH.nil)
              refine step_app_rg rfl (.tmp 84) (.tmp 95) rfl w1.heap.size (.slice (some ⟨gn, 0, none⟩) (m + 1) cn) (o ++ [z]) rfl hol2 _ (some ⟨we.heap.size, 0, none⟩) 1 1 [(x, y)] rfl hrl rfl (by rw [HM1.out]; omega) hbl2.size ?_
              intro v5 w5 ho5 hg5 _
              have hb5 : Below w1.heap.size w1 w5 := hbl2.grown hg5 hbl2.size (fun q hq => (hol2.ge hq).1)
              refine hK.out _ _ (hb5) (fun _ => ?_)
              clear hK K'
              refine wpAnyH_take (i := 13) (v := v5) (List.getElem?_toArray.trans rfl) (by kernel_rfl) (by kernel_rfl) (by kernel_rfl) (fun _ _ _ h => h) (.inl ⟨rfl, fun w' hS => rfl⟩) hb5 ?_
              refine act_normS (by simp only [Act.put, List.setIfInBounds_toArray, List.set_cons_zero, List.set_cons_succ]; rfl) ?_
              refine wpAnyH_done (by kernel_rfl) ?_ _
              have HO5 := Lib.hid ho5
              have HB5 := Lib.hid hb5
              clear hG hbl hrl hol2 hbl2 ho5 hg5 hb5
              go_wp2
              go_roundw
              case rel => exact ⟨_, k + 1, (o ++ [z]) ++ [(x, y)], rfl, by go_num, by omega, Lib.hid (HNX.out _ (HMT.out.anew HCW.out.1 HCW.out.2 (by rw [HWX.out, HKK.out]; rfl) (fun o' z' e => by have h9 := (List.append_inj' e rfl).2; simp at h9; rw [← h9]; exact HZX.out)) (by rw [List.length_append, HM1.out]; simp; omega)), HO5, HB5⟩
              case measure => simp [intOf]; omega
    · have d1 : decide ((k : Int) + 1 < (len : Int)) = false := decide_eq_false (by omega)
      have HDN : Hid (NeatL out ∧ ∀ n, inB out n = W n) := by
        rcases hk with hk | ⟨hk, hk0⟩
        · obtain ⟨x, hx⟩ : ∃ x, E[k]? = some x := ⟨_, List.getElem?_eq_getElem (by rw [← HLEN.out]; omega)⟩
          have := hmk.out.1 x hx
          rw [HW.out] at this ⊢
          exact Lib.hid (made_end HEO.out kind hx (by rw [← HLEN.out]; omega) this)
        · have hE : E = [] := List.eq_nil_of_length_eq_zero (by rw [← HLEN.out]; exact hk)
          have hout := hmk.out.2.1 hE
          have hEO := HEO.out
          rw [hE] at hEO
          rw [hout, HW.out]
          exact Lib.hid ⟨neat_nil, fun n => (made_none hEO kind n).symm⟩
      have HFT : Hid (FitL out) := Lib.hid (fit_of HDN.out.1 (fun n hn => by
        rw [HDN.out.2, HW.out] at hn
        simp only at hn
        rcases hxa : inB a n with _ | _
        · rcases hxb : inB b n with _ | _
          · rw [hxa, hxb, sel_none] at hn
            cases hn
          · exact fit_in HF2.out hxb
        · exact fit_in HF1.out hxa))
      have HLO : Hid (out.length ≤ 40000) := Lib.hid (by have := hmk.out.2.2; omega)
      clear hmk
      go_wp2
      go_ret
      exact ⟨_, out, rfl, how.out.base hb1s, HDN.out.1, HFT.out, HDN.out.2, HLO.out, HB1.out.trans (hbw.out.mono hb1s)⟩

end Go.Proofs.Ytkmnhlcjeebejaa
