/-
  hostlerlaw09.GcmJoins: the hash is a sum. Printed by tools/gen_gcjoins.py.
-/
import Derived.Test.YtajfpbkeabdcaaaGcKnown
import Derived.Test.YtajfpbkeabdcaaaDag
namespace Go.Proofs.Ytajfpbkeabdcaaa
open Go.RowKit
set_option linter.unusedVariables false

/-- Two texts added, behind k bytes. -/
def jnN (a b : List UInt8) : Nat → List UInt8
  | 0 => a
  | k + 1 => (jnN a b k).set k ((jnN a b k).getD k 0 ^^^ b.getD k 0)
theorem jnN_len (a b : List UInt8) (k : Nat) : (jnN a b k).length = a.length := by
  induction k with
  | zero => rfl
  | succ k ih => simp [jnN, ih]
theorem jnN_get (a b : List UInt8) (hl : a.length = b.length) (k : Nat) (hk : k ≤ a.length) (i : Nat) : (jnN a b k).getD i 0 = if i < k then a.getD i 0 ^^^ b.getD i 0 else a.getD i 0 := by
  induction k with
  | zero => simp [jnN]
  | succ k ih =>
    have h := ih (by omega)
    rw [jnN, List.getD_eq_getElem?_getD]
    by_cases hik : k = i
    · subst hik
      rw [List.getElem?_set_self (by rw [jnN_len]; omega), if_pos (by omega), Option.getD_some, h, if_neg (by omega)]
    · rw [List.getElem?_set_ne hik, ← List.getD_eq_getElem?_getD, h]
      by_cases h2 : i < k
      · rw [if_pos h2, if_pos (by omega)]
      · rw [if_neg h2, if_neg (by omega)]
theorem jn_all (a b : List UInt8) (hl : a.length = b.length) : jnN a b a.length = xoG a b := by
  apply List.ext_getElem (by rw [jnN_len]; simp [xoG]; omega)
  intro i h1 h2
  have h3 : i < a.length := by rw [jnN_len] at h1; exact h1
  have h := jnN_get a b hl a.length (Nat.le_refl _) i
  rw [if_pos h3, List.getD_eq_getElem?_getD, List.getElem?_eq_getElem h1, Option.getD_some] at h
  have h4 : (xoG a b)[i] = a[i] ^^^ b[i] := by unfold xoG; exact List.getElem_zipWith
  rw [h, h4, List.getD_eq_getElem?_getD, List.getElem?_eq_getElem h3, List.getD_eq_getElem?_getD, List.getElem?_eq_getElem (by omega)]
  rfl

/-- Own bytes at A, in a block from base on. -/
def ShG (w : World) (A : Option Addr) (base : Nat) (L : List UInt8) : Prop := L ≠ [] → ∃ g, A = some ⟨g, 0, none⟩ ∧ Pb w g 5 L ∧ base ≤ g
theorem ShG.sl {w : World} {A : Option Addr} {base : Nat} {L : List UInt8} (h : ShG w A base L) : Sl w w.heap.size A L := by
  intro hne
  obtain ⟨g, rfl, hp, _⟩ := h (by intro e; rw [e] at hne; simp at hne)
  exact hp.sl hne

set_option maxRecDepth 100000 in
set_option maxHeartbeats 1000000 in
theorem joins_early (k l m : List UInt8) (A B : Option Addr) (c d : Nat) (w : World) (h : 600 < l.length ∨ l.length ≠ m.length) :
    Calls Try.prog 5 #[.agg (aRow k), .slice A l.length c, .slice B m.length d] w fun e w' => e = .returned (.bool true) ∧ Below w.heap.size w w' := by
  go_enter Try.func5, Try.ntmps5
  go_wp2_with fail
  have hbe : Below w.heap.size w (w.alloc (.cells (aRow k) 22)) := (Below.refl _ _).alloc (Nat.le_refl _) _
  generalize w.alloc (.cells (aRow k) 22) = W at *
  refine (known_any W).mono ?_
  rintro e w1 ⟨rfl, hb1⟩
  have HB := Lib.hid (hbe.trans (hb1.mono hbe.size))
  clear hbe hb1
  by_cases h1 : 600 < l.length
  · have hd1 : decide ((l.length : Int) > 600) = true := by rw [decide_eq_true_iff]; omega
    clear h h1
    go_wp2
    go_ret
    exact ⟨rfl, HB.out⟩
  · have hd1 : decide ((l.length : Int) > 600) = false := by rw [decide_eq_false_iff_not]; omega
    have hne : ¬ l.length = m.length := by omega
    have hd2 : decide (l.length = m.length) = false := decide_eq_false hne
    clear h h1
    go_wp2
    go_ret
    exact ⟨rfl, HB.out⟩

set_option maxRecDepth 100000 in
set_option maxHeartbeats 4000000 in
theorem joins_main (k l m : List UInt8) (A B : Option Addr) (c d n : Nat) (w : World) (hk : k.length = 16) (hs : Sl w w.heap.size A l) (hlc : n ≤ c) (hcm : c ≤ maxLen) (hln : l.length = n)
    (ht : Sl w w.heap.size B m) (hmd : n ≤ d) (hdm : d ≤ maxLen) (hmn : m.length = n) (hn : n ≤ 600) :
    Calls Try.prog 5 #[.agg (aRow k), .slice A n c, .slice B n d] w fun e w' => e = .returned (.bool true) ∧ Below w.heap.size w w' := by
  obtain ⟨i0, hi0, hz0, hz1, hz2⟩ := info_parts info8
  have HKL := Deep.mk hk
  have HLN := Deep.mk hln
  have HMN := Deep.mk hmn
  have HS := Lib.hid hs
  have HT := Lib.hid ht
  have HCM := Lib.hid hcm
  have HDM := Lib.hid hdm
  have HLC := Lib.hid hlc
  have HMD := Lib.hid hmd
  obtain ⟨X, hX⟩ : ∃ X, X = xoG l m := ⟨_, rfl⟩
  have HX := Deep.mk hX
  have HXN : Deep (X.length = n) := ⟨by rw [hX]; simp [xoG]; omega⟩
  have HXJ : Deep (jnN l m n = X) := ⟨by rw [hX, ← hln]; exact jn_all l m (by omega)⟩
  clear hk hln hmn hs ht hcm hdm hlc hX
  go_enter Try.func5, Try.ntmps5
  go_wp2_with fail
  have hbe : Below w.heap.size w (w.alloc (.cells (aRow k) 22)) := (Below.refl _ _).alloc (Nat.le_refl _) _
  have h1 := Wh.new w 22 (aRow k)
  generalize w.alloc (.cells (aRow k) 22) = W at *
  obtain ⟨ka, hka⟩ : ∃ a, a = w.heap.size := ⟨_, rfl⟩
  rw [← hka] at h1 ⊢
  refine (known_any W).mono ?_
  rintro e w1 ⟨rfl, hb1⟩
  have HB := Lib.hid (hbe.trans (hb1.mono hbe.size))
  have HKA := Lib.hid (h1.below hb1 h1.lt)
  have hd1 : decide ((n : Int) > 600) = false := by rw [decide_eq_false_iff_not]; omega
  clear hbe h1 hb1 hka
  have hs1 : Sl w1 w.heap.size A l := HS.out.below HB.out
  have hz1w := HB.out.size
  have hlm : (l.map cell8).length = n := by rw [List.length_map]; exact HLN.out
  go_upto_region 6 with (first
    | (at_builtin; refine wpList_append_sv _ rfl (.tmp 25) (.tmp 26) _ rfl w1.heap.size 5 i0 _ 1 Try.underlying24 hi0 hz0 hz1 hz2 rfl (.slice (some ⟨w1.heap.size, 0, none⟩) 0 0) 0 [] rfl (own_none w1 5) w.heap.size A n c (l.map cell8) rfl (sv_alloc hs1 hz1w _) hlm (cell8_one _) (by unfold maxLen; omega) (by omega) (by simp) ?_; intro vw2 w2 how2 hgw2 _; rw [Nat.zero_add, List.nil_append] at how2; have HOw2 := Lib.hid how2; have HCw2 := Lib.hid (below_clone hgw2 (Nat.le_refl _)); clear how2 hgw2))
  clear hs1 hz1w hlm
  obtain ⟨A7, c7, rfl, h71, h72⟩ := own_form HOw2.out
  have hsh : ShG w2 A7 w1.heap.size l := fun hne => by
    have hpos : 0 < n := by rw [← HLN.out]; exact List.length_pos_iff.2 hne
    obtain ⟨g, cap, e, hp, hg, _, _⟩ := Pb.of_own HOw2.out hpos
    simp only [Value.slice.injEq] at e
    obtain ⟨rfl, _, rfl⟩ := e
    exact ⟨g, rfl, hp, hg⟩
  have HSH : Hid (ShG w2 A7 w1.heap.size (jnN l m 0)) := Lib.hid hsh
  have H71 := Lib.hid h71
  have H72 := Lib.hid h72
  have HB1 := Lib.hid HCw2.out
  clear hsh h71 h72 HOw2 HCw2
  have HKLT := Lib.hid HKA.out.lt
  go_wp2_with fail
  go_loopw [8, 30] (fun _ i wr => ∃ j : Nat, j ≤ n ∧ i = .int .i64 (j : Int) ∧ Hid (ShG wr A7 w1.heap.size (jnN l m j)) ∧ Hid (Below w1.heap.size w1 wr)) (fun _ i _ => n - (intOf i).toNat)
  case atStart => exact ⟨0, by omega, rfl, HSH, HB1⟩
  case round =>
    obtain ⟨j, hj, rfl, HG, HBR⟩ := hrel
    clear HSH HB1
    by_cases hlt : j < n
    · obtain ⟨L, hL⟩ : ∃ L, L = jnN l m j := ⟨_, rfl⟩
      have hLn : L.length = n := by rw [hL, jnN_len, HLN.out]
      rw [← hL] at HG
      obtain ⟨g, rfl, hp, hgb⟩ := HG.out (by intro e; rw [e] at hLn; simp at hLn; omega)
      have hx := hp.cell (j := j) (by omega)
      have hf := hp.frozen j
      have hb2 := HT.out.below (HB.out.trans (HBR.out.mono HB.out.size))
      obtain ⟨b2, off2, rfl, hb2l, hc2⟩ := Sl.at_ hb2 (by rw [HMN.out]; omega)
      have hy := hc2 j (m.getD j 0) (by simp [List.getD, HMN.out, hlt])
      obtain ⟨x, hx0⟩ : ∃ x, x = L.getD j 0 := ⟨_, rfl⟩
      obtain ⟨y, hy0⟩ : ∃ y, y = m.getD j 0 := ⟨_, rfl⟩
      rw [← hx0] at hx
      rw [← hy0] at hy
      obtain ⟨z, hz⟩ : ∃ z, z = x ^^^ y := ⟨_, rfl⟩
      have HZZ := Deep.mk hz
      have HNX : Deep (L.set j z = jnN l m (j + 1)) := ⟨by rw [hz, hx0, hy0, hL]; rfl⟩
      have hjn : (j : Int) < (n : Int) := by omega
      have hpb2 := hp.put j z
      have hgs := grown_trans (grown_below (row := some g) ((Below.refl _ wr).drew)) (grown_set wr.drew g j (.int .u8 (z.toNat : Int)))
      have hxd : wr.drew.cell? ⟨g, j, none⟩ = some (.int .u8 (x.toNat : Int)) := hx
      have hfd : wr.drew.frozen? ⟨g, j, none⟩ = false := hf
      have hyd : wr.drew.cell? ⟨b2, off2 + j, none⟩ = some (.int .u8 (y.toNat : Int)) := hy
      have HP2 : Hid (Pb (wr.drew.setCell ⟨g, j, none⟩ (.int .u8 (z.toNat : Int))) g 5 (L.set j z)) := Lib.hid hpb2
      have HG2 := Lib.hid hgs
      have HGB := Lib.hid hgb
      clear hL hp hx hf hb2 hb2l hc2 hy hx0 hy0 hz hpb2 hgs hgb HG
      go_wp2_with fail
      refine wp_region_held_drew (S := fun _ => True) (by kernel_rfl) trivial (fun _ => ?_)
      refine wpAnyH_take (i := 0) (v := .slice (some ⟨g, 0, none⟩) n c7) (List.getElem?_toArray.trans rfl) (by kernel_rfl) (by kernel_rfl) (by kernel_rfl) (fun _ _ _ h => h) (.inl ⟨rfl, fun w' hS => rfl⟩) trivial ?_
      refine act_normM (by simp only [Act.put, List.setIfInBounds_toArray, List.set_cons_zero, List.set_cons_succ]; rfl) ?_
      refine wpAnyH_take (i := 1) (v := .int .i64 (j : Int)) (List.getElem?_toArray.trans rfl) (by kernel_rfl) (by kernel_rfl) (by kernel_rfl) (fun _ _ _ h => h) (.inl ⟨rfl, fun w' hS => rfl⟩) trivial ?_
      refine act_normM (by simp only [Act.put, List.setIfInBounds_toArray, List.set_cons_zero, List.set_cons_succ]; rfl) ?_
      refine wpAnyH_take (i := 2) (v := .pointer (some ⟨g, j, none⟩)) (List.getElem?_toArray.trans rfl) (by kernel_rfl) (by kernel_rfl) (by kernel_rfl) (fun _ _ _ h => h) (.inl ⟨rfl, fun w' hS => by simp [go_sem, hjn]⟩) trivial ?_
      refine act_normM (by simp only [Act.put, List.setIfInBounds_toArray, List.set_cons_zero, List.set_cons_succ]; rfl) ?_
      refine wpAnyH_take (i := 4) (v := .slice (some ⟨b2, off2, none⟩) n d) (List.getElem?_toArray.trans rfl) (by kernel_rfl) (by kernel_rfl) (by kernel_rfl) (fun _ _ _ h => h) (.inl ⟨rfl, fun w' hS => rfl⟩) trivial ?_
      refine act_normM (by simp only [Act.put, List.setIfInBounds_toArray, List.set_cons_zero, List.set_cons_succ]; rfl) ?_
      refine wpAnyH_take (i := 5) (v := .int .i64 (j : Int)) (List.getElem?_toArray.trans rfl) (by kernel_rfl) (by kernel_rfl) (by kernel_rfl) (fun _ _ _ h => h) (.inl ⟨rfl, fun w' hS => rfl⟩) trivial ?_
      refine act_normM (by simp only [Act.put, List.setIfInBounds_toArray, List.set_cons_zero, List.set_cons_succ]; rfl) ?_
      refine wpAnyH_take (i := 6) (v := .pointer (some ⟨b2, off2 + j, none⟩)) (List.getElem?_toArray.trans rfl) (by kernel_rfl) (by kernel_rfl) (by kernel_rfl) (fun _ _ _ h => h) (.inl ⟨rfl, fun w' hS => by simp [go_sem, hjn]⟩) trivial ?_
      refine act_normM (by simp only [Act.put, List.setIfInBounds_toArray, List.set_cons_zero, List.set_cons_succ]; rfl) ?_
      refine wpAnyH_ready (rs := [3, 7]) (by kernel_rfl) (by simp) (AllReadyH.cons (List.getElem?_toArray.trans rfl) (fun K' hK => ?_) (AllReadyH.cons (List.getElem?_toArray.trans rfl) (fun K' hK => ?_) AllReadyH.nil))
      · refine wanted_goM rfl ?_
        go_simp
        refine hK.out _ _ trivial (fun _ => ?_)
        clear hK K'
        refine wpAnyH_ready (rs := [7]) (by kernel_rfl) (by simp) (AllReadyH.cons (List.getElem?_toArray.trans rfl) (fun K' hK => ?_) AllReadyH.nil)
        refine wanted_goM rfl ?_
        go_simp
        refine hK.out _ _ trivial (fun _ => ?_)
        clear hK K'
        refine wpAnyH_take (i := 8) (v := .int .u8 (z.toNat : Int)) (List.getElem?_toArray.trans rfl) (by kernel_rfl) (by kernel_rfl) (by kernel_rfl) (fun _ _ _ h => h) (.inl ⟨rfl, fun w' hS => by rw [HZZ.out, ← b_xor]; simp [go_sem]⟩) trivial ?_
        refine act_normM (by simp only [Act.put, List.setIfInBounds_toArray, List.set_cons_zero, List.set_cons_succ]; rfl) ?_
        refine wpAnyH_take (i := 9) (v := .pointer (some ⟨g, j, none⟩)) (List.getElem?_toArray.trans rfl) (by kernel_rfl) (by kernel_rfl) (by kernel_rfl) (fun _ _ _ h => h) (.inl ⟨rfl, fun w' hS => by simp [go_sem, hjn]⟩) trivial ?_
        refine act_normM (by simp only [Act.put, List.setIfInBounds_toArray, List.set_cons_zero, List.set_cons_succ]; rfl) ?_
        refine wpAnyH_ready (rs := [10]) (by kernel_rfl) (by simp) (AllReadyH.cons (List.getElem?_toArray.trans rfl) (fun K' hK => ?_) AllReadyH.nil)
        refine wanted_goM rfl ?_
        go_simp
        refine hK.out _ _ trivial (fun _ => ?_)
        clear hK K'
        refine wpAnyH_done (by kernel_rfl) ?_ _
        clear hxd hfd hyd hjn
        change Exit.inBlock 1 _ _ _ (wr.drew.setCell ⟨g, j, none⟩ (.int .u8 (z.toNat : Int)))
        generalize wr.drew.setCell ⟨g, j, none⟩ (.int .u8 (z.toNat : Int)) = w3 at *
        go_wp2
        refine ⟨⟨j + 1, by omega, by go_num, ?_, Lib.hid (HBR.out.grown HG2.out HBR.out.size (fun q hq => by have := Option.some.inj hq; have := HGB.out; omega))⟩, by simp [intOf]; omega⟩
        rw [← HNX.out]
        exact Lib.hid (fun _ => ⟨g, rfl, HP2.out, HGB.out⟩)
      · refine wanted_goM rfl ?_
        go_simp
        refine hK.out _ _ trivial (fun _ => ?_)
        clear hK K'
        refine wpAnyH_ready (rs := [3]) (by kernel_rfl) (by simp) (AllReadyH.cons (List.getElem?_toArray.trans rfl) (fun K' hK => ?_) AllReadyH.nil)
        refine wanted_goM rfl ?_
        go_simp
        refine hK.out _ _ trivial (fun _ => ?_)
        clear hK K'
        refine wpAnyH_take (i := 8) (v := .int .u8 (z.toNat : Int)) (List.getElem?_toArray.trans rfl) (by kernel_rfl) (by kernel_rfl) (by kernel_rfl) (fun _ _ _ h => h) (.inl ⟨rfl, fun w' hS => by rw [HZZ.out, ← b_xor]; simp [go_sem]⟩) trivial ?_
        refine act_normM (by simp only [Act.put, List.setIfInBounds_toArray, List.set_cons_zero, List.set_cons_succ]; rfl) ?_
        refine wpAnyH_take (i := 9) (v := .pointer (some ⟨g, j, none⟩)) (List.getElem?_toArray.trans rfl) (by kernel_rfl) (by kernel_rfl) (by kernel_rfl) (fun _ _ _ h => h) (.inl ⟨rfl, fun w' hS => by simp [go_sem, hjn]⟩) trivial ?_
        refine act_normM (by simp only [Act.put, List.setIfInBounds_toArray, List.set_cons_zero, List.set_cons_succ]; rfl) ?_
        refine wpAnyH_ready (rs := [10]) (by kernel_rfl) (by simp) (AllReadyH.cons (List.getElem?_toArray.trans rfl) (fun K' hK => ?_) AllReadyH.nil)
        refine wanted_goM rfl ?_
        go_simp
        refine hK.out _ _ trivial (fun _ => ?_)
        clear hK K'
        refine wpAnyH_done (by kernel_rfl) ?_ _
        clear hxd hfd hyd hjn
        change Exit.inBlock 1 _ _ _ (wr.drew.setCell ⟨g, j, none⟩ (.int .u8 (z.toNat : Int)))
        generalize wr.drew.setCell ⟨g, j, none⟩ (.int .u8 (z.toNat : Int)) = w3 at *
        go_wp2
        refine ⟨⟨j + 1, by omega, by go_num, ?_, Lib.hid (HBR.out.grown HG2.out HBR.out.size (fun q hq => by have := Option.some.inj hq; have := HGB.out; omega))⟩, by simp [intOf]; omega⟩
        rw [← HNX.out]
        exact Lib.hid (fun _ => ⟨g, rfl, HP2.out, HGB.out⟩)
    · have hkd : decide (j < n) = false := by rw [decide_eq_false_iff_not]; omega
      have hjn : j = n := by omega
      rw [hjn, HXJ.out] at HG
      have HXS : Hid (Sl wr wr.heap.size A7 X) := Lib.hid HG.out.sl
      have HBW := Lib.hid (HB.out.trans (HBR.out.mono HB.out.size))
      have HKW := Lib.hid (HKA.out.below HBR.out HKLT.out)
      clear HG HBR hj hlt hjn HB HKA HKLT
      obtain ⟨xh, hxh⟩ : ∃ x, x = hashL k l := ⟨_, rfl⟩
      obtain ⟨yh, hyh⟩ : ∃ x, x = hashL k m := ⟨_, rfl⟩
      obtain ⟨zh, hzh⟩ : ∃ x, x = hashL k X := ⟨_, rfl⟩
      have hxl : xh.length = 16 := by rw [hxh]; exact hsN_len HKL.out _ _
      have hyl : yh.length = 16 := by rw [hyh]; exact hsN_len HKL.out _ _
      have hzl : zh.length = 16 := by rw [hzh]; exact hsN_len HKL.out _ _
      have hjoin : zh = xoG xh yh := by rw [hzh, hxh, hyh, HX.out]; exact hash_xor HKL.out l m (by rw [HLN.out, HMN.out])
      have h1c := fun w' (hb : SinceM wr.drew w') => gchash_any k l A c w' HKL.out (((HS.out.below HBW.out.drew).below (hb.mono HBW.out.size)).keep (Nat.le_trans HBW.out.size hb.size) (fun _ _ => rfl)) (by rw [HLN.out]; exact HLC.out) HCM.out
      have h2c := fun w' (hb : SinceM wr.drew w') => gchash_any k m B d w' HKL.out (((HT.out.below HBW.out.drew).below (hb.mono HBW.out.size)).keep (Nat.le_trans HBW.out.size hb.size) (fun _ _ => rfl)) (by rw [HMN.out]; exact HMD.out) HDM.out
      have h3c := fun w' (hb : SinceM wr.drew w') => gchash_any k X A7 c7 w' HKL.out ((show Sl wr.drew wr.drew.heap.size A7 X from HXS.out).below hb |>.keep hb.size (fun _ _ => rfl)) (by rw [HXN.out]; exact H71.out) H72.out
      rw [HLN.out, ← hxh] at h1c
      rw [HMN.out, ← hyh] at h2c
      rw [HXN.out, ← hzh] at h3c
      have HH1 := Lib.hid h1c
      have HH2 := Lib.hid h2c
      have HH3 := Lib.hid h3c
      have HXL := Deep.mk hxl
      have HYL := Deep.mk hyl
      have HZL := Deep.mk hzl
      have HJN := Deep.mk hjoin
      clear h1c h2c h3c hxl hyl hzl hxh hyh hzh hjoin
      go_upto_region 11 with (fail)
      go_cut [9, 10, 11] (fun v1 v2 v3 wx => ∃ r1 r2 r3, v1 = .pointer (some ⟨r1, 0, none⟩) ∧ v2 = .pointer (some ⟨r2, 0, none⟩) ∧ v3 = .pointer (some ⟨r3, 0, none⟩) ∧ Hid (Wh wx r1 22 (aRow xh)) ∧ Hid (Wh wx r2 22 (aRow yh)) ∧ Hid (Wh wx r3 22 (aRow zh)) ∧ Hid (Below w.heap.size w wx))
      case first =>
        go_wp2_with fail
        have hW0 : Below w.heap.size w wr.drew := HBW.out.drew
        have hKA : Wh wr.drew ka 22 (aRow k) := HKW.out
        clear HBW HKW HXS
        refine wp_region_held_drew (S := fun w' => SinceM wr.drew w') (by kernel_rfl) (SinceM.self _) (fun _ => ?_)
        generalize wr.drew = w0 at *
        refine wpAnyH_take (i := 0) (v := .agg (aRow k)) (List.getElem?_toArray.trans rfl) (by kernel_rfl) (by kernel_rfl) (by kernel_rfl) (fun _ _ _ h => h) (yields_blk (by rfl) (.tmp 3) rfl ka 0 rfl k HKL.out (fun w' hS => (SinceM.wh hS hKA).range)) (SinceM.self _) ?_
        refine act_normM (by simp only [Act.put, List.setIfInBounds_toArray, List.set_cons_zero, List.set_cons_succ]; rfl) ?_
        refine wpAnyH_take (i := 1) (v := .slice A n c) (List.getElem?_toArray.trans rfl) (by kernel_rfl) (by kernel_rfl) (by kernel_rfl) (fun _ _ _ h => h) (.inl ⟨rfl, fun w' hS => rfl⟩) (SinceM.self _) ?_
        refine act_normM (by simp only [Act.put, List.setIfInBounds_toArray, List.set_cons_zero, List.set_cons_succ]; rfl) ?_
        refine wpAnyH_take (i := 3) (v := .agg (aRow k)) (List.getElem?_toArray.trans rfl) (by kernel_rfl) (by kernel_rfl) (by kernel_rfl) (fun _ _ _ h => h) (yields_blk (by rfl) (.tmp 3) rfl ka 0 rfl k HKL.out (fun w' hS => (SinceM.wh hS hKA).range)) (SinceM.self _) ?_
        refine act_normM (by simp only [Act.put, List.setIfInBounds_toArray, List.set_cons_zero, List.set_cons_succ]; rfl) ?_
        refine wpAnyH_take (i := 4) (v := .slice B n d) (List.getElem?_toArray.trans rfl) (by kernel_rfl) (by kernel_rfl) (by kernel_rfl) (fun _ _ _ h => h) (.inl ⟨rfl, fun w' hS => rfl⟩) (SinceM.self _) ?_
        refine act_normM (by simp only [Act.put, List.setIfInBounds_toArray, List.set_cons_zero, List.set_cons_succ]; rfl) ?_
        refine wpAnyH_take (i := 6) (v := .agg (aRow k)) (List.getElem?_toArray.trans rfl) (by kernel_rfl) (by kernel_rfl) (by kernel_rfl) (fun _ _ _ h => h) (yields_blk (by rfl) (.tmp 3) rfl ka 0 rfl k HKL.out (fun w' hS => (SinceM.wh hS hKA).range)) (SinceM.self _) ?_
        refine act_normM (by simp only [Act.put, List.setIfInBounds_toArray, List.set_cons_zero, List.set_cons_succ]; rfl) ?_
        refine wpAnyH_take (i := 7) (v := .slice A7 n c7) (List.getElem?_toArray.trans rfl) (by kernel_rfl) (by kernel_rfl) (by kernel_rfl) (fun _ _ _ h => h) (.inl ⟨rfl, fun w' hS => rfl⟩) (SinceM.self _) ?_
        refine act_normM (by simp only [Act.put, List.setIfInBounds_toArray, List.set_cons_zero, List.set_cons_succ]; rfl) ?_
        refine captureM fun OPS QQ a0 hO hQ hA => ?_
        have st_2_5_8_9_10_11 : ∀ (w' : World) (r1 : Nat) (r2 : Nat) (r3 : Nat), SinceM w0 w' → w0.heap.size ≤ r1 → Wh w' r1 22 (aRow (List.replicate 16 0)) → w0.heap.size ≤ r2 → Wh w' r2 22 (aRow (List.replicate 16 0)) → w0.heap.size ≤ r3 → Wh w' r3 22 (aRow (List.replicate 16 0)) → r1 ≠ r2 → r1 ≠ r3 → r2 ≠ r3 → wpAnyH Try.prog .any OPS QQ (fun w' => SinceM w0 w') 3 #[true, true, true, true, true, true, true, true, true, true, true, true, false, false, false] ((((((a0.put (some 46) (.agg (aRow xh))).put (some 49) (.agg (aRow yh))).put (some 52) (.agg (aRow zh))).put (some 9) (.pointer (some ⟨r1, 0, none⟩))).put (some 10) (.pointer (some ⟨r2, 0, none⟩))).put (some 11) (.pointer (some ⟨r3, 0, none⟩))) w' := by
          intro w' r1 r2 r3 hS hgr1 hwr1 hgr2 hwr2 hgr3 hwr3 hnr1r2 hnr1r3 hnr2r3
          subst hO hQ hA
          refine act_normM (by simp only [Act.put, List.setIfInBounds_toArray, List.set_cons_zero, List.set_cons_succ]; rfl) ?_
          obtain ⟨hvr1, hur1⟩ := Wh.over hwr1 rfl HXL.out
          have hSw3 : SinceM w0 (w'.setCells r1 0 (xh.map cell8)) := SinceM.put hS hur1 hgr1
          have hr2w3 := Wh.grown hwr2 hur1 (by intro e; have := Option.some.inj e; omega)
          have hr3w3 := Wh.grown hwr3 hur1 (by intro e; have := Option.some.inj e; omega)
          refine wpAnyH_ready (rs := [12]) (by kernel_rfl) (by simp) (AllReadyH.cons (List.getElem?_toArray.trans rfl) (fun K' hK => ?_) AllReadyH.nil)
          refine wanted_goM rfl ?_
          refine wp_store_mid 22 (.tmp 9) (.tmp 46) rfl r1 0 (aRow xh) rfl rfl (by rw [aRow_size, HXL.out]; exact Wh.there hwr1 rfl) (info_aRow HXL.out) (aRow_one _) ?_
          rw [aRow_list]
          generalize w'.setCells r1 0 (xh.map cell8) = w3 at *
          refine hK.out _ _ hSw3 (fun _ => ?_)
          clear hK K'
          obtain ⟨hvr2, hur2⟩ := Wh.over hr2w3 rfl HYL.out
          have hSw4 : SinceM w0 (w3.setCells r2 0 (yh.map cell8)) := SinceM.put hSw3 hur2 hgr2
          have hr1w4 := Wh.grown hvr1 hur2 (by intro e; have := Option.some.inj e; omega)
          have hr3w4 := Wh.grown hr3w3 hur2 (by intro e; have := Option.some.inj e; omega)
          refine wpAnyH_ready (rs := [13]) (by kernel_rfl) (by simp) (AllReadyH.cons (List.getElem?_toArray.trans rfl) (fun K' hK => ?_) AllReadyH.nil)
          refine wanted_goM rfl ?_
          refine wp_store_mid 22 (.tmp 10) (.tmp 49) rfl r2 0 (aRow yh) rfl rfl (by rw [aRow_size, HYL.out]; exact Wh.there hr2w3 rfl) (info_aRow HYL.out) (aRow_one _) ?_
          rw [aRow_list]
          generalize w3.setCells r2 0 (yh.map cell8) = w4 at *
          refine hK.out _ _ hSw4 (fun _ => ?_)
          clear hK K'
          obtain ⟨hvr3, hur3⟩ := Wh.over hr3w4 rfl HZL.out
          have hSw5 : SinceM w0 (w4.setCells r3 0 (zh.map cell8)) := SinceM.put hSw4 hur3 hgr3
          have hr1w5 := Wh.grown hr1w4 hur3 (by intro e; have := Option.some.inj e; omega)
          have hr2w5 := Wh.grown hvr2 hur3 (by intro e; have := Option.some.inj e; omega)
          refine wpAnyH_ready (rs := [14]) (by kernel_rfl) (by simp) (AllReadyH.cons (List.getElem?_toArray.trans rfl) (fun K' hK => ?_) AllReadyH.nil)
          refine wanted_goM rfl ?_
          refine wp_store_mid 22 (.tmp 11) (.tmp 52) rfl r3 0 (aRow zh) rfl rfl (by rw [aRow_size, HZL.out]; exact Wh.there hr3w4 rfl) (info_aRow HZL.out) (aRow_one _) ?_
          rw [aRow_list]
          generalize w4.setCells r3 0 (zh.map cell8) = w5 at *
          refine hK.out _ _ hSw5 (fun _ => ?_)
          clear hK K'
          refine wpAnyH_done (by kernel_rfl) ?_ _
          go_wp2_with fail
          go_meet
          exact ⟨r1, r2, r3, rfl, rfl, rfl, Lib.hid hr1w5, Lib.hid hr2w5, Lib.hid hvr3, Lib.hid (hW0.trans (hSw5.mono hW0.size))⟩
        have st_2_5_8_9_10 : ∀ (w' : World) (r1 : Nat) (r2 : Nat), SinceM w0 w' → w0.heap.size ≤ r1 → Wh w' r1 22 (aRow (List.replicate 16 0)) → w0.heap.size ≤ r2 → Wh w' r2 22 (aRow (List.replicate 16 0)) → r1 ≠ r2 → wpAnyH Try.prog .any OPS QQ (fun w' => SinceM w0 w') 4 #[true, true, true, true, true, true, true, true, true, true, true, false, false, false, false] (((((a0.put (some 46) (.agg (aRow xh))).put (some 49) (.agg (aRow yh))).put (some 52) (.agg (aRow zh))).put (some 9) (.pointer (some ⟨r1, 0, none⟩))).put (some 10) (.pointer (some ⟨r2, 0, none⟩))) w' := by
          intro w' r1 r2 hS hgr1 hwr1 hgr2 hwr2 hnr1r2
          subst hO hQ hA
          refine wpAnyH_ready (rs := [11]) (by kernel_rfl) (by simp) (AllReadyH.cons (List.getElem?_toArray.trans rfl) (fun K' hK => ?_) AllReadyH.nil)
          · refine wanted_goM rfl ?_
            go_simp
            rw [zeros16]
            obtain ⟨r3, er3⟩ : ∃ r, r = w'.heap.size := ⟨_, rfl⟩
            rw [← er3]
            have hb2 : SinceM w' (w'.alloc (.cells (aRow (List.replicate 16 0)) 22)) := (Below.refl _ _).alloc (Nat.le_refl _) _
            have hwr3 : Wh (w'.alloc (.cells (aRow (List.replicate 16 0)) 22)) r3 22 (aRow (List.replicate 16 0)) := by rw [er3]; exact Wh.new _ _ _
            have hgr3 : w0.heap.size ≤ r3 := by rw [er3]; exact hS.size
            have hnr1r3 : r1 ≠ r3 := by have := (hwr1).lt; omega
            have hnr2r3 : r2 ≠ r3 := by have := (hwr2).lt; omega
            generalize w'.alloc (.cells (aRow (List.replicate 16 0)) 22) = w2 at *
            clear er3
            have hS2 := SinceM.trans hS hb2
            refine hK.out _ _ hS2 (fun _ => ?_)
            clear hK K'
            exact act_listM (by kernel_rfl) (by kernel_rfl) (st_2_5_8_9_10_11 w2 r1 r2 r3 hS2 hgr1 (SinceM.wh hb2 hwr1) hgr2 (SinceM.wh hb2 hwr2) hgr3 hwr3 hnr1r2 hnr1r3 hnr2r3)
        have st_2_5_8_9_11 : ∀ (w' : World) (r1 : Nat) (r3 : Nat), SinceM w0 w' → w0.heap.size ≤ r1 → Wh w' r1 22 (aRow (List.replicate 16 0)) → w0.heap.size ≤ r3 → Wh w' r3 22 (aRow (List.replicate 16 0)) → r1 ≠ r3 → wpAnyH Try.prog .any OPS QQ (fun w' => SinceM w0 w') 4 #[true, true, true, true, true, true, true, true, true, true, false, true, false, false, false] (((((a0.put (some 46) (.agg (aRow xh))).put (some 49) (.agg (aRow yh))).put (some 52) (.agg (aRow zh))).put (some 9) (.pointer (some ⟨r1, 0, none⟩))).put (some 11) (.pointer (some ⟨r3, 0, none⟩))) w' := by
          intro w' r1 r3 hS hgr1 hwr1 hgr3 hwr3 hnr1r3
          subst hO hQ hA
          refine wpAnyH_ready (rs := [10]) (by kernel_rfl) (by simp) (AllReadyH.cons (List.getElem?_toArray.trans rfl) (fun K' hK => ?_) AllReadyH.nil)
          · refine wanted_goM rfl ?_
            go_simp
            rw [zeros16]
            obtain ⟨r2, er2⟩ : ∃ r, r = w'.heap.size := ⟨_, rfl⟩
            rw [← er2]
            have hb2 : SinceM w' (w'.alloc (.cells (aRow (List.replicate 16 0)) 22)) := (Below.refl _ _).alloc (Nat.le_refl _) _
            have hwr2 : Wh (w'.alloc (.cells (aRow (List.replicate 16 0)) 22)) r2 22 (aRow (List.replicate 16 0)) := by rw [er2]; exact Wh.new _ _ _
            have hgr2 : w0.heap.size ≤ r2 := by rw [er2]; exact hS.size
            have hnr1r2 : r1 ≠ r2 := by have := (hwr1).lt; omega
            have hnr2r3 : r2 ≠ r3 := by have := (hwr3).lt; omega
            generalize w'.alloc (.cells (aRow (List.replicate 16 0)) 22) = w2 at *
            clear er2
            have hS2 := SinceM.trans hS hb2
            refine hK.out _ _ hS2 (fun _ => ?_)
            clear hK K'
            exact act_listM (by kernel_rfl) (by kernel_rfl) (st_2_5_8_9_10_11 w2 r1 r2 r3 hS2 hgr1 (SinceM.wh hb2 hwr1) hgr2 hwr2 hgr3 (SinceM.wh hb2 hwr3) hnr1r2 hnr1r3 hnr2r3)
        have st_2_5_8_10_11 : ∀ (w' : World) (r2 : Nat) (r3 : Nat), SinceM w0 w' → w0.heap.size ≤ r2 → Wh w' r2 22 (aRow (List.replicate 16 0)) → w0.heap.size ≤ r3 → Wh w' r3 22 (aRow (List.replicate 16 0)) → r2 ≠ r3 → wpAnyH Try.prog .any OPS QQ (fun w' => SinceM w0 w') 4 #[true, true, true, true, true, true, true, true, true, false, true, true, false, false, false] (((((a0.put (some 46) (.agg (aRow xh))).put (some 49) (.agg (aRow yh))).put (some 52) (.agg (aRow zh))).put (some 10) (.pointer (some ⟨r2, 0, none⟩))).put (some 11) (.pointer (some ⟨r3, 0, none⟩))) w' := by
          intro w' r2 r3 hS hgr2 hwr2 hgr3 hwr3 hnr2r3
          subst hO hQ hA
          refine wpAnyH_ready (rs := [9]) (by kernel_rfl) (by simp) (AllReadyH.cons (List.getElem?_toArray.trans rfl) (fun K' hK => ?_) AllReadyH.nil)
          · refine wanted_goM rfl ?_
            go_simp
            rw [zeros16]
            obtain ⟨r1, er1⟩ : ∃ r, r = w'.heap.size := ⟨_, rfl⟩
            rw [← er1]
            have hb2 : SinceM w' (w'.alloc (.cells (aRow (List.replicate 16 0)) 22)) := (Below.refl _ _).alloc (Nat.le_refl _) _
            have hwr1 : Wh (w'.alloc (.cells (aRow (List.replicate 16 0)) 22)) r1 22 (aRow (List.replicate 16 0)) := by rw [er1]; exact Wh.new _ _ _
            have hgr1 : w0.heap.size ≤ r1 := by rw [er1]; exact hS.size
            have hnr1r2 : r1 ≠ r2 := by have := (hwr2).lt; omega
            have hnr1r3 : r1 ≠ r3 := by have := (hwr3).lt; omega
            generalize w'.alloc (.cells (aRow (List.replicate 16 0)) 22) = w2 at *
            clear er1
            have hS2 := SinceM.trans hS hb2
            refine hK.out _ _ hS2 (fun _ => ?_)
            clear hK K'
            exact act_listM (by kernel_rfl) (by kernel_rfl) (st_2_5_8_9_10_11 w2 r1 r2 r3 hS2 hgr1 hwr1 hgr2 (SinceM.wh hb2 hwr2) hgr3 (SinceM.wh hb2 hwr3) hnr1r2 hnr1r3 hnr2r3)
        have st_2_5_9_10_11 : ∀ (w' : World) (r1 : Nat) (r2 : Nat) (r3 : Nat), SinceM w0 w' → w0.heap.size ≤ r1 → Wh w' r1 22 (aRow (List.replicate 16 0)) → w0.heap.size ≤ r2 → Wh w' r2 22 (aRow (List.replicate 16 0)) → w0.heap.size ≤ r3 → Wh w' r3 22 (aRow (List.replicate 16 0)) → r1 ≠ r2 → r1 ≠ r3 → r2 ≠ r3 → wpAnyH Try.prog .any OPS QQ (fun w' => SinceM w0 w') 4 #[true, true, true, true, true, true, true, true, false, true, true, true, false, false, false] (((((a0.put (some 46) (.agg (aRow xh))).put (some 49) (.agg (aRow yh))).put (some 9) (.pointer (some ⟨r1, 0, none⟩))).put (some 10) (.pointer (some ⟨r2, 0, none⟩))).put (some 11) (.pointer (some ⟨r3, 0, none⟩))) w' := by
          intro w' r1 r2 r3 hS hgr1 hwr1 hgr2 hwr2 hgr3 hwr3 hnr1r2 hnr1r3 hnr2r3
          subst hO hQ hA
          refine wpAnyH_ready (rs := [8]) (by kernel_rfl) (by simp) (AllReadyH.cons (List.getElem?_toArray.trans rfl) (fun K' hK => ?_) AllReadyH.nil)
          · refine wanted_goM rfl ?_
            go_simp
            refine (HH3.out w' hS).mono ?_
            rintro e w2 ⟨rfl, hb2⟩
            have hS2 := SinceM.trans hS hb2
            refine hK.out _ _ hS2 (fun _ => ?_)
            clear hK K'
            exact act_listM (by kernel_rfl) (by kernel_rfl) (st_2_5_8_9_10_11 w2 r1 r2 r3 hS2 hgr1 (SinceM.wh hb2 hwr1) hgr2 (SinceM.wh hb2 hwr2) hgr3 (SinceM.wh hb2 hwr3) hnr1r2 hnr1r3 hnr2r3)
        have st_2_5_8_9 : ∀ (w' : World) (r1 : Nat), SinceM w0 w' → w0.heap.size ≤ r1 → Wh w' r1 22 (aRow (List.replicate 16 0)) → wpAnyH Try.prog .any OPS QQ (fun w' => SinceM w0 w') 5 #[true, true, true, true, true, true, true, true, true, true, false, false, false, false, false] ((((a0.put (some 46) (.agg (aRow xh))).put (some 49) (.agg (aRow yh))).put (some 52) (.agg (aRow zh))).put (some 9) (.pointer (some ⟨r1, 0, none⟩))) w' := by
          intro w' r1 hS hgr1 hwr1
          subst hO hQ hA
          refine wpAnyH_ready (rs := [10, 11]) (by kernel_rfl) (by simp) (AllReadyH.cons (List.getElem?_toArray.trans rfl) (fun K' hK => ?_) (AllReadyH.cons (List.getElem?_toArray.trans rfl) (fun K' hK => ?_) AllReadyH.nil))
          · refine wanted_goM rfl ?_
            go_simp
            rw [zeros16]
            obtain ⟨r2, er2⟩ : ∃ r, r = w'.heap.size := ⟨_, rfl⟩
            rw [← er2]
            have hb2 : SinceM w' (w'.alloc (.cells (aRow (List.replicate 16 0)) 22)) := (Below.refl _ _).alloc (Nat.le_refl _) _
            have hwr2 : Wh (w'.alloc (.cells (aRow (List.replicate 16 0)) 22)) r2 22 (aRow (List.replicate 16 0)) := by rw [er2]; exact Wh.new _ _ _
            have hgr2 : w0.heap.size ≤ r2 := by rw [er2]; exact hS.size
            have hnr1r2 : r1 ≠ r2 := by have := (hwr1).lt; omega
            generalize w'.alloc (.cells (aRow (List.replicate 16 0)) 22) = w2 at *
            clear er2
            have hS2 := SinceM.trans hS hb2
            refine hK.out _ _ hS2 (fun _ => ?_)
            clear hK K'
            exact act_listM (by kernel_rfl) (by kernel_rfl) (st_2_5_8_9_10 w2 r1 r2 hS2 hgr1 (SinceM.wh hb2 hwr1) hgr2 hwr2 hnr1r2)
          · refine wanted_goM rfl ?_
            go_simp
            rw [zeros16]
            obtain ⟨r3, er3⟩ : ∃ r, r = w'.heap.size := ⟨_, rfl⟩
            rw [← er3]
            have hb2 : SinceM w' (w'.alloc (.cells (aRow (List.replicate 16 0)) 22)) := (Below.refl _ _).alloc (Nat.le_refl _) _
            have hwr3 : Wh (w'.alloc (.cells (aRow (List.replicate 16 0)) 22)) r3 22 (aRow (List.replicate 16 0)) := by rw [er3]; exact Wh.new _ _ _
            have hgr3 : w0.heap.size ≤ r3 := by rw [er3]; exact hS.size
            have hnr1r3 : r1 ≠ r3 := by have := (hwr1).lt; omega
            generalize w'.alloc (.cells (aRow (List.replicate 16 0)) 22) = w2 at *
            clear er3
            have hS2 := SinceM.trans hS hb2
            refine hK.out _ _ hS2 (fun _ => ?_)
            clear hK K'
            exact act_listM (by kernel_rfl) (by kernel_rfl) (st_2_5_8_9_11 w2 r1 r3 hS2 hgr1 (SinceM.wh hb2 hwr1) hgr3 hwr3 hnr1r3)
        have st_2_5_8_10 : ∀ (w' : World) (r2 : Nat), SinceM w0 w' → w0.heap.size ≤ r2 → Wh w' r2 22 (aRow (List.replicate 16 0)) → wpAnyH Try.prog .any OPS QQ (fun w' => SinceM w0 w') 5 #[true, true, true, true, true, true, true, true, true, false, true, false, false, false, false] ((((a0.put (some 46) (.agg (aRow xh))).put (some 49) (.agg (aRow yh))).put (some 52) (.agg (aRow zh))).put (some 10) (.pointer (some ⟨r2, 0, none⟩))) w' := by
          intro w' r2 hS hgr2 hwr2
          subst hO hQ hA
          refine wpAnyH_ready (rs := [9, 11]) (by kernel_rfl) (by simp) (AllReadyH.cons (List.getElem?_toArray.trans rfl) (fun K' hK => ?_) (AllReadyH.cons (List.getElem?_toArray.trans rfl) (fun K' hK => ?_) AllReadyH.nil))
          · refine wanted_goM rfl ?_
            go_simp
            rw [zeros16]
            obtain ⟨r1, er1⟩ : ∃ r, r = w'.heap.size := ⟨_, rfl⟩
            rw [← er1]
            have hb2 : SinceM w' (w'.alloc (.cells (aRow (List.replicate 16 0)) 22)) := (Below.refl _ _).alloc (Nat.le_refl _) _
            have hwr1 : Wh (w'.alloc (.cells (aRow (List.replicate 16 0)) 22)) r1 22 (aRow (List.replicate 16 0)) := by rw [er1]; exact Wh.new _ _ _
            have hgr1 : w0.heap.size ≤ r1 := by rw [er1]; exact hS.size
            have hnr1r2 : r1 ≠ r2 := by have := (hwr2).lt; omega
            generalize w'.alloc (.cells (aRow (List.replicate 16 0)) 22) = w2 at *
            clear er1
            have hS2 := SinceM.trans hS hb2
            refine hK.out _ _ hS2 (fun _ => ?_)
            clear hK K'
            exact act_listM (by kernel_rfl) (by kernel_rfl) (st_2_5_8_9_10 w2 r1 r2 hS2 hgr1 hwr1 hgr2 (SinceM.wh hb2 hwr2) hnr1r2)
          · refine wanted_goM rfl ?_
            go_simp
            rw [zeros16]
            obtain ⟨r3, er3⟩ : ∃ r, r = w'.heap.size := ⟨_, rfl⟩
            rw [← er3]
            have hb2 : SinceM w' (w'.alloc (.cells (aRow (List.replicate 16 0)) 22)) := (Below.refl _ _).alloc (Nat.le_refl _) _
            have hwr3 : Wh (w'.alloc (.cells (aRow (List.replicate 16 0)) 22)) r3 22 (aRow (List.replicate 16 0)) := by rw [er3]; exact Wh.new _ _ _
            have hgr3 : w0.heap.size ≤ r3 := by rw [er3]; exact hS.size
            have hnr2r3 : r2 ≠ r3 := by have := (hwr2).lt; omega
            generalize w'.alloc (.cells (aRow (List.replicate 16 0)) 22) = w2 at *
            clear er3
            have hS2 := SinceM.trans hS hb2
            refine hK.out _ _ hS2 (fun _ => ?_)
            clear hK K'
            exact act_listM (by kernel_rfl) (by kernel_rfl) (st_2_5_8_10_11 w2 r2 r3 hS2 hgr2 (SinceM.wh hb2 hwr2) hgr3 hwr3 hnr2r3)
        have st_2_5_8_11 : ∀ (w' : World) (r3 : Nat), SinceM w0 w' → w0.heap.size ≤ r3 → Wh w' r3 22 (aRow (List.replicate 16 0)) → wpAnyH Try.prog .any OPS QQ (fun w' => SinceM w0 w') 5 #[true, true, true, true, true, true, true, true, true, false, false, true, false, false, false] ((((a0.put (some 46) (.agg (aRow xh))).put (some 49) (.agg (aRow yh))).put (some 52) (.agg (aRow zh))).put (some 11) (.pointer (some ⟨r3, 0, none⟩))) w' := by
          intro w' r3 hS hgr3 hwr3
          subst hO hQ hA
          refine wpAnyH_ready (rs := [9, 10]) (by kernel_rfl) (by simp) (AllReadyH.cons (List.getElem?_toArray.trans rfl) (fun K' hK => ?_) (AllReadyH.cons (List.getElem?_toArray.trans rfl) (fun K' hK => ?_) AllReadyH.nil))
          · refine wanted_goM rfl ?_
            go_simp
            rw [zeros16]
            obtain ⟨r1, er1⟩ : ∃ r, r = w'.heap.size := ⟨_, rfl⟩
            rw [← er1]
            have hb2 : SinceM w' (w'.alloc (.cells (aRow (List.replicate 16 0)) 22)) := (Below.refl _ _).alloc (Nat.le_refl _) _
            have hwr1 : Wh (w'.alloc (.cells (aRow (List.replicate 16 0)) 22)) r1 22 (aRow (List.replicate 16 0)) := by rw [er1]; exact Wh.new _ _ _
            have hgr1 : w0.heap.size ≤ r1 := by rw [er1]; exact hS.size
            have hnr1r3 : r1 ≠ r3 := by have := (hwr3).lt; omega
            generalize w'.alloc (.cells (aRow (List.replicate 16 0)) 22) = w2 at *
            clear er1
            have hS2 := SinceM.trans hS hb2
            refine hK.out _ _ hS2 (fun _ => ?_)
            clear hK K'
            exact act_listM (by kernel_rfl) (by kernel_rfl) (st_2_5_8_9_11 w2 r1 r3 hS2 hgr1 hwr1 hgr3 (SinceM.wh hb2 hwr3) hnr1r3)
          · refine wanted_goM rfl ?_
            go_simp
            rw [zeros16]
            obtain ⟨r2, er2⟩ : ∃ r, r = w'.heap.size := ⟨_, rfl⟩
            rw [← er2]
            have hb2 : SinceM w' (w'.alloc (.cells (aRow (List.replicate 16 0)) 22)) := (Below.refl _ _).alloc (Nat.le_refl _) _
            have hwr2 : Wh (w'.alloc (.cells (aRow (List.replicate 16 0)) 22)) r2 22 (aRow (List.replicate 16 0)) := by rw [er2]; exact Wh.new _ _ _
            have hgr2 : w0.heap.size ≤ r2 := by rw [er2]; exact hS.size
            have hnr2r3 : r2 ≠ r3 := by have := (hwr3).lt; omega
            generalize w'.alloc (.cells (aRow (List.replicate 16 0)) 22) = w2 at *
            clear er2
            have hS2 := SinceM.trans hS hb2
            refine hK.out _ _ hS2 (fun _ => ?_)
            clear hK K'
            exact act_listM (by kernel_rfl) (by kernel_rfl) (st_2_5_8_10_11 w2 r2 r3 hS2 hgr2 hwr2 hgr3 (SinceM.wh hb2 hwr3) hnr2r3)
        have st_2_5_9_10 : ∀ (w' : World) (r1 : Nat) (r2 : Nat), SinceM w0 w' → w0.heap.size ≤ r1 → Wh w' r1 22 (aRow (List.replicate 16 0)) → w0.heap.size ≤ r2 → Wh w' r2 22 (aRow (List.replicate 16 0)) → r1 ≠ r2 → wpAnyH Try.prog .any OPS QQ (fun w' => SinceM w0 w') 5 #[true, true, true, true, true, true, true, true, false, true, true, false, false, false, false] ((((a0.put (some 46) (.agg (aRow xh))).put (some 49) (.agg (aRow yh))).put (some 9) (.pointer (some ⟨r1, 0, none⟩))).put (some 10) (.pointer (some ⟨r2, 0, none⟩))) w' := by
          intro w' r1 r2 hS hgr1 hwr1 hgr2 hwr2 hnr1r2
          subst hO hQ hA
          refine wpAnyH_ready (rs := [8, 11]) (by kernel_rfl) (by simp) (AllReadyH.cons (List.getElem?_toArray.trans rfl) (fun K' hK => ?_) (AllReadyH.cons (List.getElem?_toArray.trans rfl) (fun K' hK => ?_) AllReadyH.nil))
          · refine wanted_goM rfl ?_
            go_simp
            refine (HH3.out w' hS).mono ?_
            rintro e w2 ⟨rfl, hb2⟩
            have hS2 := SinceM.trans hS hb2
            refine hK.out _ _ hS2 (fun _ => ?_)
            clear hK K'
            exact act_listM (by kernel_rfl) (by kernel_rfl) (st_2_5_8_9_10 w2 r1 r2 hS2 hgr1 (SinceM.wh hb2 hwr1) hgr2 (SinceM.wh hb2 hwr2) hnr1r2)
          · refine wanted_goM rfl ?_
            go_simp
            rw [zeros16]
            obtain ⟨r3, er3⟩ : ∃ r, r = w'.heap.size := ⟨_, rfl⟩
            rw [← er3]
            have hb2 : SinceM w' (w'.alloc (.cells (aRow (List.replicate 16 0)) 22)) := (Below.refl _ _).alloc (Nat.le_refl _) _
            have hwr3 : Wh (w'.alloc (.cells (aRow (List.replicate 16 0)) 22)) r3 22 (aRow (List.replicate 16 0)) := by rw [er3]; exact Wh.new _ _ _
            have hgr3 : w0.heap.size ≤ r3 := by rw [er3]; exact hS.size
            have hnr1r3 : r1 ≠ r3 := by have := (hwr1).lt; omega
            have hnr2r3 : r2 ≠ r3 := by have := (hwr2).lt; omega
            generalize w'.alloc (.cells (aRow (List.replicate 16 0)) 22) = w2 at *
            clear er3
            have hS2 := SinceM.trans hS hb2
            refine hK.out _ _ hS2 (fun _ => ?_)
            clear hK K'
            exact act_listM (by kernel_rfl) (by kernel_rfl) (st_2_5_9_10_11 w2 r1 r2 r3 hS2 hgr1 (SinceM.wh hb2 hwr1) hgr2 (SinceM.wh hb2 hwr2) hgr3 hwr3 hnr1r2 hnr1r3 hnr2r3)
        have st_2_5_9_11 : ∀ (w' : World) (r1 : Nat) (r3 : Nat), SinceM w0 w' → w0.heap.size ≤ r1 → Wh w' r1 22 (aRow (List.replicate 16 0)) → w0.heap.size ≤ r3 → Wh w' r3 22 (aRow (List.replicate 16 0)) → r1 ≠ r3 → wpAnyH Try.prog .any OPS QQ (fun w' => SinceM w0 w') 5 #[true, true, true, true, true, true, true, true, false, true, false, true, false, false, false] ((((a0.put (some 46) (.agg (aRow xh))).put (some 49) (.agg (aRow yh))).put (some 9) (.pointer (some ⟨r1, 0, none⟩))).put (some 11) (.pointer (some ⟨r3, 0, none⟩))) w' := by
          intro w' r1 r3 hS hgr1 hwr1 hgr3 hwr3 hnr1r3
          subst hO hQ hA
          refine wpAnyH_ready (rs := [8, 10]) (by kernel_rfl) (by simp) (AllReadyH.cons (List.getElem?_toArray.trans rfl) (fun K' hK => ?_) (AllReadyH.cons (List.getElem?_toArray.trans rfl) (fun K' hK => ?_) AllReadyH.nil))
          · refine wanted_goM rfl ?_
            go_simp
            refine (HH3.out w' hS).mono ?_
            rintro e w2 ⟨rfl, hb2⟩
            have hS2 := SinceM.trans hS hb2
            refine hK.out _ _ hS2 (fun _ => ?_)
            clear hK K'
            exact act_listM (by kernel_rfl) (by kernel_rfl) (st_2_5_8_9_11 w2 r1 r3 hS2 hgr1 (SinceM.wh hb2 hwr1) hgr3 (SinceM.wh hb2 hwr3) hnr1r3)
          · refine wanted_goM rfl ?_
            go_simp
            rw [zeros16]
            obtain ⟨r2, er2⟩ : ∃ r, r = w'.heap.size := ⟨_, rfl⟩
            rw [← er2]
            have hb2 : SinceM w' (w'.alloc (.cells (aRow (List.replicate 16 0)) 22)) := (Below.refl _ _).alloc (Nat.le_refl _) _
            have hwr2 : Wh (w'.alloc (.cells (aRow (List.replicate 16 0)) 22)) r2 22 (aRow (List.replicate 16 0)) := by rw [er2]; exact Wh.new _ _ _
            have hgr2 : w0.heap.size ≤ r2 := by rw [er2]; exact hS.size
            have hnr1r2 : r1 ≠ r2 := by have := (hwr1).lt; omega
            have hnr2r3 : r2 ≠ r3 := by have := (hwr3).lt; omega
            generalize w'.alloc (.cells (aRow (List.replicate 16 0)) 22) = w2 at *
            clear er2
            have hS2 := SinceM.trans hS hb2
            refine hK.out _ _ hS2 (fun _ => ?_)
            clear hK K'
            exact act_listM (by kernel_rfl) (by kernel_rfl) (st_2_5_9_10_11 w2 r1 r2 r3 hS2 hgr1 (SinceM.wh hb2 hwr1) hgr2 hwr2 hgr3 (SinceM.wh hb2 hwr3) hnr1r2 hnr1r3 hnr2r3)
        have st_2_5_10_11 : ∀ (w' : World) (r2 : Nat) (r3 : Nat), SinceM w0 w' → w0.heap.size ≤ r2 → Wh w' r2 22 (aRow (List.replicate 16 0)) → w0.heap.size ≤ r3 → Wh w' r3 22 (aRow (List.replicate 16 0)) → r2 ≠ r3 → wpAnyH Try.prog .any OPS QQ (fun w' => SinceM w0 w') 5 #[true, true, true, true, true, true, true, true, false, false, true, true, false, false, false] ((((a0.put (some 46) (.agg (aRow xh))).put (some 49) (.agg (aRow yh))).put (some 10) (.pointer (some ⟨r2, 0, none⟩))).put (some 11) (.pointer (some ⟨r3, 0, none⟩))) w' := by
          intro w' r2 r3 hS hgr2 hwr2 hgr3 hwr3 hnr2r3
          subst hO hQ hA
          refine wpAnyH_ready (rs := [8, 9]) (by kernel_rfl) (by simp) (AllReadyH.cons (List.getElem?_toArray.trans rfl) (fun K' hK => ?_) (AllReadyH.cons (List.getElem?_toArray.trans rfl) (fun K' hK => ?_) AllReadyH.nil))
          · refine wanted_goM rfl ?_
            go_simp
            refine (HH3.out w' hS).mono ?_
            rintro e w2 ⟨rfl, hb2⟩
            have hS2 := SinceM.trans hS hb2
            refine hK.out _ _ hS2 (fun _ => ?_)
            clear hK K'
            exact act_listM (by kernel_rfl) (by kernel_rfl) (st_2_5_8_10_11 w2 r2 r3 hS2 hgr2 (SinceM.wh hb2 hwr2) hgr3 (SinceM.wh hb2 hwr3) hnr2r3)
          · refine wanted_goM rfl ?_
            go_simp
            rw [zeros16]
            obtain ⟨r1, er1⟩ : ∃ r, r = w'.heap.size := ⟨_, rfl⟩
            rw [← er1]
            have hb2 : SinceM w' (w'.alloc (.cells (aRow (List.replicate 16 0)) 22)) := (Below.refl _ _).alloc (Nat.le_refl _) _
            have hwr1 : Wh (w'.alloc (.cells (aRow (List.replicate 16 0)) 22)) r1 22 (aRow (List.replicate 16 0)) := by rw [er1]; exact Wh.new _ _ _
            have hgr1 : w0.heap.size ≤ r1 := by rw [er1]; exact hS.size
            have hnr1r2 : r1 ≠ r2 := by have := (hwr2).lt; omega
            have hnr1r3 : r1 ≠ r3 := by have := (hwr3).lt; omega
            generalize w'.alloc (.cells (aRow (List.replicate 16 0)) 22) = w2 at *
            clear er1
            have hS2 := SinceM.trans hS hb2
            refine hK.out _ _ hS2 (fun _ => ?_)
            clear hK K'
            exact act_listM (by kernel_rfl) (by kernel_rfl) (st_2_5_9_10_11 w2 r1 r2 r3 hS2 hgr1 hwr1 hgr2 (SinceM.wh hb2 hwr2) hgr3 (SinceM.wh hb2 hwr3) hnr1r2 hnr1r3 hnr2r3)
        have st_2_9_10_11 : ∀ (w' : World) (r1 : Nat) (r2 : Nat) (r3 : Nat), SinceM w0 w' → w0.heap.size ≤ r1 → Wh w' r1 22 (aRow (List.replicate 16 0)) → w0.heap.size ≤ r2 → Wh w' r2 22 (aRow (List.replicate 16 0)) → w0.heap.size ≤ r3 → Wh w' r3 22 (aRow (List.replicate 16 0)) → r1 ≠ r2 → r1 ≠ r3 → r2 ≠ r3 → wpAnyH Try.prog .any OPS QQ (fun w' => SinceM w0 w') 5 #[true, true, true, true, true, false, true, true, false, true, true, true, false, false, false] ((((a0.put (some 46) (.agg (aRow xh))).put (some 9) (.pointer (some ⟨r1, 0, none⟩))).put (some 10) (.pointer (some ⟨r2, 0, none⟩))).put (some 11) (.pointer (some ⟨r3, 0, none⟩))) w' := by
          intro w' r1 r2 r3 hS hgr1 hwr1 hgr2 hwr2 hgr3 hwr3 hnr1r2 hnr1r3 hnr2r3
          subst hO hQ hA
          refine wpAnyH_ready (rs := [5]) (by kernel_rfl) (by simp) (AllReadyH.cons (List.getElem?_toArray.trans rfl) (fun K' hK => ?_) AllReadyH.nil)
          · refine wanted_goM rfl ?_
            go_simp
            refine (HH2.out w' hS).mono ?_
            rintro e w2 ⟨rfl, hb2⟩
            have hS2 := SinceM.trans hS hb2
            refine hK.out _ _ hS2 (fun _ => ?_)
            clear hK K'
            exact act_listM (by kernel_rfl) (by kernel_rfl) (st_2_5_9_10_11 w2 r1 r2 r3 hS2 hgr1 (SinceM.wh hb2 hwr1) hgr2 (SinceM.wh hb2 hwr2) hgr3 (SinceM.wh hb2 hwr3) hnr1r2 hnr1r3 hnr2r3)
        have st_2_5_8 : ∀ (w' : World), SinceM w0 w' → wpAnyH Try.prog .any OPS QQ (fun w' => SinceM w0 w') 6 #[true, true, true, true, true, true, true, true, true, false, false, false, false, false, false] (((a0.put (some 46) (.agg (aRow xh))).put (some 49) (.agg (aRow yh))).put (some 52) (.agg (aRow zh))) w' := by
          intro w'  hS
          subst hO hQ hA
          refine wpAnyH_ready (rs := [9, 10, 11]) (by kernel_rfl) (by simp) (AllReadyH.cons (List.getElem?_toArray.trans rfl) (fun K' hK => ?_) (AllReadyH.cons (List.getElem?_toArray.trans rfl) (fun K' hK => ?_) (AllReadyH.cons (List.getElem?_toArray.trans rfl) (fun K' hK => ?_) AllReadyH.nil)))
          · refine wanted_goM rfl ?_
            go_simp
            rw [zeros16]
            obtain ⟨r1, er1⟩ : ∃ r, r = w'.heap.size := ⟨_, rfl⟩
            rw [← er1]
            have hb2 : SinceM w' (w'.alloc (.cells (aRow (List.replicate 16 0)) 22)) := (Below.refl _ _).alloc (Nat.le_refl _) _
            have hwr1 : Wh (w'.alloc (.cells (aRow (List.replicate 16 0)) 22)) r1 22 (aRow (List.replicate 16 0)) := by rw [er1]; exact Wh.new _ _ _
            have hgr1 : w0.heap.size ≤ r1 := by rw [er1]; exact hS.size
            generalize w'.alloc (.cells (aRow (List.replicate 16 0)) 22) = w2 at *
            clear er1
            have hS2 := SinceM.trans hS hb2
            refine hK.out _ _ hS2 (fun _ => ?_)
            clear hK K'
            exact act_listM (by kernel_rfl) (by kernel_rfl) (st_2_5_8_9 w2 r1 hS2 hgr1 hwr1)
          · refine wanted_goM rfl ?_
            go_simp
            rw [zeros16]
            obtain ⟨r2, er2⟩ : ∃ r, r = w'.heap.size := ⟨_, rfl⟩
            rw [← er2]
            have hb2 : SinceM w' (w'.alloc (.cells (aRow (List.replicate 16 0)) 22)) := (Below.refl _ _).alloc (Nat.le_refl _) _
            have hwr2 : Wh (w'.alloc (.cells (aRow (List.replicate 16 0)) 22)) r2 22 (aRow (List.replicate 16 0)) := by rw [er2]; exact Wh.new _ _ _
            have hgr2 : w0.heap.size ≤ r2 := by rw [er2]; exact hS.size
            generalize w'.alloc (.cells (aRow (List.replicate 16 0)) 22) = w2 at *
            clear er2
            have hS2 := SinceM.trans hS hb2
            refine hK.out _ _ hS2 (fun _ => ?_)
            clear hK K'
            exact act_listM (by kernel_rfl) (by kernel_rfl) (st_2_5_8_10 w2 r2 hS2 hgr2 hwr2)
          · refine wanted_goM rfl ?_
            go_simp
            rw [zeros16]
            obtain ⟨r3, er3⟩ : ∃ r, r = w'.heap.size := ⟨_, rfl⟩
            rw [← er3]
            have hb2 : SinceM w' (w'.alloc (.cells (aRow (List.replicate 16 0)) 22)) := (Below.refl _ _).alloc (Nat.le_refl _) _
            have hwr3 : Wh (w'.alloc (.cells (aRow (List.replicate 16 0)) 22)) r3 22 (aRow (List.replicate 16 0)) := by rw [er3]; exact Wh.new _ _ _
            have hgr3 : w0.heap.size ≤ r3 := by rw [er3]; exact hS.size
            generalize w'.alloc (.cells (aRow (List.replicate 16 0)) 22) = w2 at *
            clear er3
            have hS2 := SinceM.trans hS hb2
            refine hK.out _ _ hS2 (fun _ => ?_)
            clear hK K'
            exact act_listM (by kernel_rfl) (by kernel_rfl) (st_2_5_8_11 w2 r3 hS2 hgr3 hwr3)
        have st_2_5_9 : ∀ (w' : World) (r1 : Nat), SinceM w0 w' → w0.heap.size ≤ r1 → Wh w' r1 22 (aRow (List.replicate 16 0)) → wpAnyH Try.prog .any OPS QQ (fun w' => SinceM w0 w') 6 #[true, true, true, true, true, true, true, true, false, true, false, false, false, false, false] (((a0.put (some 46) (.agg (aRow xh))).put (some 49) (.agg (aRow yh))).put (some 9) (.pointer (some ⟨r1, 0, none⟩))) w' := by
          intro w' r1 hS hgr1 hwr1
          subst hO hQ hA
          refine wpAnyH_ready (rs := [8, 10, 11]) (by kernel_rfl) (by simp) (AllReadyH.cons (List.getElem?_toArray.trans rfl) (fun K' hK => ?_) (AllReadyH.cons (List.getElem?_toArray.trans rfl) (fun K' hK => ?_) (AllReadyH.cons (List.getElem?_toArray.trans rfl) (fun K' hK => ?_) AllReadyH.nil)))
          · refine wanted_goM rfl ?_
            go_simp
            refine (HH3.out w' hS).mono ?_
            rintro e w2 ⟨rfl, hb2⟩
            have hS2 := SinceM.trans hS hb2
            refine hK.out _ _ hS2 (fun _ => ?_)
            clear hK K'
            exact act_listM (by kernel_rfl) (by kernel_rfl) (st_2_5_8_9 w2 r1 hS2 hgr1 (SinceM.wh hb2 hwr1))
          · refine wanted_goM rfl ?_
            go_simp
            rw [zeros16]
            obtain ⟨r2, er2⟩ : ∃ r, r = w'.heap.size := ⟨_, rfl⟩
            rw [← er2]
            have hb2 : SinceM w' (w'.alloc (.cells (aRow (List.replicate 16 0)) 22)) := (Below.refl _ _).alloc (Nat.le_refl _) _
            have hwr2 : Wh (w'.alloc (.cells (aRow (List.replicate 16 0)) 22)) r2 22 (aRow (List.replicate 16 0)) := by rw [er2]; exact Wh.new _ _ _
            have hgr2 : w0.heap.size ≤ r2 := by rw [er2]; exact hS.size
            have hnr1r2 : r1 ≠ r2 := by have := (hwr1).lt; omega
            generalize w'.alloc (.cells (aRow (List.replicate 16 0)) 22) = w2 at *
            clear er2
            have hS2 := SinceM.trans hS hb2
            refine hK.out _ _ hS2 (fun _ => ?_)
            clear hK K'
            exact act_listM (by kernel_rfl) (by kernel_rfl) (st_2_5_9_10 w2 r1 r2 hS2 hgr1 (SinceM.wh hb2 hwr1) hgr2 hwr2 hnr1r2)
          · refine wanted_goM rfl ?_
            go_simp
            rw [zeros16]
            obtain ⟨r3, er3⟩ : ∃ r, r = w'.heap.size := ⟨_, rfl⟩
            rw [← er3]
            have hb2 : SinceM w' (w'.alloc (.cells (aRow (List.replicate 16 0)) 22)) := (Below.refl _ _).alloc (Nat.le_refl _) _
            have hwr3 : Wh (w'.alloc (.cells (aRow (List.replicate 16 0)) 22)) r3 22 (aRow (List.replicate 16 0)) := by rw [er3]; exact Wh.new _ _ _
            have hgr3 : w0.heap.size ≤ r3 := by rw [er3]; exact hS.size
            have hnr1r3 : r1 ≠ r3 := by have := (hwr1).lt; omega
            generalize w'.alloc (.cells (aRow (List.replicate 16 0)) 22) = w2 at *
            clear er3
            have hS2 := SinceM.trans hS hb2
            refine hK.out _ _ hS2 (fun _ => ?_)
            clear hK K'
            exact act_listM (by kernel_rfl) (by kernel_rfl) (st_2_5_9_11 w2 r1 r3 hS2 hgr1 (SinceM.wh hb2 hwr1) hgr3 hwr3 hnr1r3)
        have st_2_5_10 : ∀ (w' : World) (r2 : Nat), SinceM w0 w' → w0.heap.size ≤ r2 → Wh w' r2 22 (aRow (List.replicate 16 0)) → wpAnyH Try.prog .any OPS QQ (fun w' => SinceM w0 w') 6 #[true, true, true, true, true, true, true, true, false, false, true, false, false, false, false] (((a0.put (some 46) (.agg (aRow xh))).put (some 49) (.agg (aRow yh))).put (some 10) (.pointer (some ⟨r2, 0, none⟩))) w' := by
          intro w' r2 hS hgr2 hwr2
          subst hO hQ hA
          refine wpAnyH_ready (rs := [8, 9, 11]) (by kernel_rfl) (by simp) (AllReadyH.cons (List.getElem?_toArray.trans rfl) (fun K' hK => ?_) (AllReadyH.cons (List.getElem?_toArray.trans rfl) (fun K' hK => ?_) (AllReadyH.cons (List.getElem?_toArray.trans rfl) (fun K' hK => ?_) AllReadyH.nil)))
          · refine wanted_goM rfl ?_
            go_simp
            refine (HH3.out w' hS).mono ?_
            rintro e w2 ⟨rfl, hb2⟩
            have hS2 := SinceM.trans hS hb2
            refine hK.out _ _ hS2 (fun _ => ?_)
            clear hK K'
            exact act_listM (by kernel_rfl) (by kernel_rfl) (st_2_5_8_10 w2 r2 hS2 hgr2 (SinceM.wh hb2 hwr2))
          · refine wanted_goM rfl ?_
            go_simp
            rw [zeros16]
            obtain ⟨r1, er1⟩ : ∃ r, r = w'.heap.size := ⟨_, rfl⟩
            rw [← er1]
            have hb2 : SinceM w' (w'.alloc (.cells (aRow (List.replicate 16 0)) 22)) := (Below.refl _ _).alloc (Nat.le_refl _) _
            have hwr1 : Wh (w'.alloc (.cells (aRow (List.replicate 16 0)) 22)) r1 22 (aRow (List.replicate 16 0)) := by rw [er1]; exact Wh.new _ _ _
            have hgr1 : w0.heap.size ≤ r1 := by rw [er1]; exact hS.size
            have hnr1r2 : r1 ≠ r2 := by have := (hwr2).lt; omega
            generalize w'.alloc (.cells (aRow (List.replicate 16 0)) 22) = w2 at *
            clear er1
            have hS2 := SinceM.trans hS hb2
            refine hK.out _ _ hS2 (fun _ => ?_)
            clear hK K'
            exact act_listM (by kernel_rfl) (by kernel_rfl) (st_2_5_9_10 w2 r1 r2 hS2 hgr1 hwr1 hgr2 (SinceM.wh hb2 hwr2) hnr1r2)
          · refine wanted_goM rfl ?_
            go_simp
            rw [zeros16]
            obtain ⟨r3, er3⟩ : ∃ r, r = w'.heap.size := ⟨_, rfl⟩
            rw [← er3]
            have hb2 : SinceM w' (w'.alloc (.cells (aRow (List.replicate 16 0)) 22)) := (Below.refl _ _).alloc (Nat.le_refl _) _
            have hwr3 : Wh (w'.alloc (.cells (aRow (List.replicate 16 0)) 22)) r3 22 (aRow (List.replicate 16 0)) := by rw [er3]; exact Wh.new _ _ _
            have hgr3 : w0.heap.size ≤ r3 := by rw [er3]; exact hS.size
            have hnr2r3 : r2 ≠ r3 := by have := (hwr2).lt; omega
            generalize w'.alloc (.cells (aRow (List.replicate 16 0)) 22) = w2 at *
            clear er3
            have hS2 := SinceM.trans hS hb2
            refine hK.out _ _ hS2 (fun _ => ?_)
            clear hK K'
            exact act_listM (by kernel_rfl) (by kernel_rfl) (st_2_5_10_11 w2 r2 r3 hS2 hgr2 (SinceM.wh hb2 hwr2) hgr3 hwr3 hnr2r3)
        have st_2_5_11 : ∀ (w' : World) (r3 : Nat), SinceM w0 w' → w0.heap.size ≤ r3 → Wh w' r3 22 (aRow (List.replicate 16 0)) → wpAnyH Try.prog .any OPS QQ (fun w' => SinceM w0 w') 6 #[true, true, true, true, true, true, true, true, false, false, false, true, false, false, false] (((a0.put (some 46) (.agg (aRow xh))).put (some 49) (.agg (aRow yh))).put (some 11) (.pointer (some ⟨r3, 0, none⟩))) w' := by
          intro w' r3 hS hgr3 hwr3
          subst hO hQ hA
          refine wpAnyH_ready (rs := [8, 9, 10]) (by kernel_rfl) (by simp) (AllReadyH.cons (List.getElem?_toArray.trans rfl) (fun K' hK => ?_) (AllReadyH.cons (List.getElem?_toArray.trans rfl) (fun K' hK => ?_) (AllReadyH.cons (List.getElem?_toArray.trans rfl) (fun K' hK => ?_) AllReadyH.nil)))
          · refine wanted_goM rfl ?_
            go_simp
            refine (HH3.out w' hS).mono ?_
            rintro e w2 ⟨rfl, hb2⟩
            have hS2 := SinceM.trans hS hb2
            refine hK.out _ _ hS2 (fun _ => ?_)
            clear hK K'
            exact act_listM (by kernel_rfl) (by kernel_rfl) (st_2_5_8_11 w2 r3 hS2 hgr3 (SinceM.wh hb2 hwr3))
          · refine wanted_goM rfl ?_
            go_simp
            rw [zeros16]
            obtain ⟨r1, er1⟩ : ∃ r, r = w'.heap.size := ⟨_, rfl⟩
            rw [← er1]
            have hb2 : SinceM w' (w'.alloc (.cells (aRow (List.replicate 16 0)) 22)) := (Below.refl _ _).alloc (Nat.le_refl _) _
            have hwr1 : Wh (w'.alloc (.cells (aRow (List.replicate 16 0)) 22)) r1 22 (aRow (List.replicate 16 0)) := by rw [er1]; exact Wh.new _ _ _
            have hgr1 : w0.heap.size ≤ r1 := by rw [er1]; exact hS.size
            have hnr1r3 : r1 ≠ r3 := by have := (hwr3).lt; omega
            generalize w'.alloc (.cells (aRow (List.replicate 16 0)) 22) = w2 at *
            clear er1
            have hS2 := SinceM.trans hS hb2
            refine hK.out _ _ hS2 (fun _ => ?_)
            clear hK K'
            exact act_listM (by kernel_rfl) (by kernel_rfl) (st_2_5_9_11 w2 r1 r3 hS2 hgr1 hwr1 hgr3 (SinceM.wh hb2 hwr3) hnr1r3)
          · refine wanted_goM rfl ?_
            go_simp
            rw [zeros16]
            obtain ⟨r2, er2⟩ : ∃ r, r = w'.heap.size := ⟨_, rfl⟩
            rw [← er2]
            have hb2 : SinceM w' (w'.alloc (.cells (aRow (List.replicate 16 0)) 22)) := (Below.refl _ _).alloc (Nat.le_refl _) _
            have hwr2 : Wh (w'.alloc (.cells (aRow (List.replicate 16 0)) 22)) r2 22 (aRow (List.replicate 16 0)) := by rw [er2]; exact Wh.new _ _ _
            have hgr2 : w0.heap.size ≤ r2 := by rw [er2]; exact hS.size
            have hnr2r3 : r2 ≠ r3 := by have := (hwr3).lt; omega
            generalize w'.alloc (.cells (aRow (List.replicate 16 0)) 22) = w2 at *
            clear er2
            have hS2 := SinceM.trans hS hb2
            refine hK.out _ _ hS2 (fun _ => ?_)
            clear hK K'
            exact act_listM (by kernel_rfl) (by kernel_rfl) (st_2_5_10_11 w2 r2 r3 hS2 hgr2 hwr2 hgr3 (SinceM.wh hb2 hwr3) hnr2r3)
        have st_2_9_10 : ∀ (w' : World) (r1 : Nat) (r2 : Nat), SinceM w0 w' → w0.heap.size ≤ r1 → Wh w' r1 22 (aRow (List.replicate 16 0)) → w0.heap.size ≤ r2 → Wh w' r2 22 (aRow (List.replicate 16 0)) → r1 ≠ r2 → wpAnyH Try.prog .any OPS QQ (fun w' => SinceM w0 w') 6 #[true, true, true, true, true, false, true, true, false, true, true, false, false, false, false] (((a0.put (some 46) (.agg (aRow xh))).put (some 9) (.pointer (some ⟨r1, 0, none⟩))).put (some 10) (.pointer (some ⟨r2, 0, none⟩))) w' := by
          intro w' r1 r2 hS hgr1 hwr1 hgr2 hwr2 hnr1r2
          subst hO hQ hA
          refine wpAnyH_ready (rs := [5, 11]) (by kernel_rfl) (by simp) (AllReadyH.cons (List.getElem?_toArray.trans rfl) (fun K' hK => ?_) (AllReadyH.cons (List.getElem?_toArray.trans rfl) (fun K' hK => ?_) AllReadyH.nil))
          · refine wanted_goM rfl ?_
            go_simp
            refine (HH2.out w' hS).mono ?_
            rintro e w2 ⟨rfl, hb2⟩
            have hS2 := SinceM.trans hS hb2
            refine hK.out _ _ hS2 (fun _ => ?_)
            clear hK K'
            exact act_listM (by kernel_rfl) (by kernel_rfl) (st_2_5_9_10 w2 r1 r2 hS2 hgr1 (SinceM.wh hb2 hwr1) hgr2 (SinceM.wh hb2 hwr2) hnr1r2)
          · refine wanted_goM rfl ?_
            go_simp
            rw [zeros16]
            obtain ⟨r3, er3⟩ : ∃ r, r = w'.heap.size := ⟨_, rfl⟩
            rw [← er3]
            have hb2 : SinceM w' (w'.alloc (.cells (aRow (List.replicate 16 0)) 22)) := (Below.refl _ _).alloc (Nat.le_refl _) _
            have hwr3 : Wh (w'.alloc (.cells (aRow (List.replicate 16 0)) 22)) r3 22 (aRow (List.replicate 16 0)) := by rw [er3]; exact Wh.new _ _ _
            have hgr3 : w0.heap.size ≤ r3 := by rw [er3]; exact hS.size
            have hnr1r3 : r1 ≠ r3 := by have := (hwr1).lt; omega
            have hnr2r3 : r2 ≠ r3 := by have := (hwr2).lt; omega
            generalize w'.alloc (.cells (aRow (List.replicate 16 0)) 22) = w2 at *
            clear er3
            have hS2 := SinceM.trans hS hb2
            refine hK.out _ _ hS2 (fun _ => ?_)
            clear hK K'
            exact act_listM (by kernel_rfl) (by kernel_rfl) (st_2_9_10_11 w2 r1 r2 r3 hS2 hgr1 (SinceM.wh hb2 hwr1) hgr2 (SinceM.wh hb2 hwr2) hgr3 hwr3 hnr1r2 hnr1r3 hnr2r3)
        have st_2_9_11 : ∀ (w' : World) (r1 : Nat) (r3 : Nat), SinceM w0 w' → w0.heap.size ≤ r1 → Wh w' r1 22 (aRow (List.replicate 16 0)) → w0.heap.size ≤ r3 → Wh w' r3 22 (aRow (List.replicate 16 0)) → r1 ≠ r3 → wpAnyH Try.prog .any OPS QQ (fun w' => SinceM w0 w') 6 #[true, true, true, true, true, false, true, true, false, true, false, true, false, false, false] (((a0.put (some 46) (.agg (aRow xh))).put (some 9) (.pointer (some ⟨r1, 0, none⟩))).put (some 11) (.pointer (some ⟨r3, 0, none⟩))) w' := by
          intro w' r1 r3 hS hgr1 hwr1 hgr3 hwr3 hnr1r3
          subst hO hQ hA
          refine wpAnyH_ready (rs := [5, 10]) (by kernel_rfl) (by simp) (AllReadyH.cons (List.getElem?_toArray.trans rfl) (fun K' hK => ?_) (AllReadyH.cons (List.getElem?_toArray.trans rfl) (fun K' hK => ?_) AllReadyH.nil))
          · refine wanted_goM rfl ?_
            go_simp
            refine (HH2.out w' hS).mono ?_
            rintro e w2 ⟨rfl, hb2⟩
            have hS2 := SinceM.trans hS hb2
            refine hK.out _ _ hS2 (fun _ => ?_)
            clear hK K'
            exact act_listM (by kernel_rfl) (by kernel_rfl) (st_2_5_9_11 w2 r1 r3 hS2 hgr1 (SinceM.wh hb2 hwr1) hgr3 (SinceM.wh hb2 hwr3) hnr1r3)
          · refine wanted_goM rfl ?_
            go_simp
            rw [zeros16]
            obtain ⟨r2, er2⟩ : ∃ r, r = w'.heap.size := ⟨_, rfl⟩
            rw [← er2]
            have hb2 : SinceM w' (w'.alloc (.cells (aRow (List.replicate 16 0)) 22)) := (Below.refl _ _).alloc (Nat.le_refl _) _
            have hwr2 : Wh (w'.alloc (.cells (aRow (List.replicate 16 0)) 22)) r2 22 (aRow (List.replicate 16 0)) := by rw [er2]; exact Wh.new _ _ _
            have hgr2 : w0.heap.size ≤ r2 := by rw [er2]; exact hS.size
            have hnr1r2 : r1 ≠ r2 := by have := (hwr1).lt; omega
            have hnr2r3 : r2 ≠ r3 := by have := (hwr3).lt; omega
            generalize w'.alloc (.cells (aRow (List.replicate 16 0)) 22) = w2 at *
            clear er2
            have hS2 := SinceM.trans hS hb2
            refine hK.out _ _ hS2 (fun _ => ?_)
            clear hK K'
            exact act_listM (by kernel_rfl) (by kernel_rfl) (st_2_9_10_11 w2 r1 r2 r3 hS2 hgr1 (SinceM.wh hb2 hwr1) hgr2 hwr2 hgr3 (SinceM.wh hb2 hwr3) hnr1r2 hnr1r3 hnr2r3)
        have st_2_10_11 : ∀ (w' : World) (r2 : Nat) (r3 : Nat), SinceM w0 w' → w0.heap.size ≤ r2 → Wh w' r2 22 (aRow (List.replicate 16 0)) → w0.heap.size ≤ r3 → Wh w' r3 22 (aRow (List.replicate 16 0)) → r2 ≠ r3 → wpAnyH Try.prog .any OPS QQ (fun w' => SinceM w0 w') 6 #[true, true, true, true, true, false, true, true, false, false, true, true, false, false, false] (((a0.put (some 46) (.agg (aRow xh))).put (some 10) (.pointer (some ⟨r2, 0, none⟩))).put (some 11) (.pointer (some ⟨r3, 0, none⟩))) w' := by
          intro w' r2 r3 hS hgr2 hwr2 hgr3 hwr3 hnr2r3
          subst hO hQ hA
          refine wpAnyH_ready (rs := [5, 9]) (by kernel_rfl) (by simp) (AllReadyH.cons (List.getElem?_toArray.trans rfl) (fun K' hK => ?_) (AllReadyH.cons (List.getElem?_toArray.trans rfl) (fun K' hK => ?_) AllReadyH.nil))
          · refine wanted_goM rfl ?_
            go_simp
            refine (HH2.out w' hS).mono ?_
            rintro e w2 ⟨rfl, hb2⟩
            have hS2 := SinceM.trans hS hb2
            refine hK.out _ _ hS2 (fun _ => ?_)
            clear hK K'
            exact act_listM (by kernel_rfl) (by kernel_rfl) (st_2_5_10_11 w2 r2 r3 hS2 hgr2 (SinceM.wh hb2 hwr2) hgr3 (SinceM.wh hb2 hwr3) hnr2r3)
          · refine wanted_goM rfl ?_
            go_simp
            rw [zeros16]
            obtain ⟨r1, er1⟩ : ∃ r, r = w'.heap.size := ⟨_, rfl⟩
            rw [← er1]
            have hb2 : SinceM w' (w'.alloc (.cells (aRow (List.replicate 16 0)) 22)) := (Below.refl _ _).alloc (Nat.le_refl _) _
            have hwr1 : Wh (w'.alloc (.cells (aRow (List.replicate 16 0)) 22)) r1 22 (aRow (List.replicate 16 0)) := by rw [er1]; exact Wh.new _ _ _
            have hgr1 : w0.heap.size ≤ r1 := by rw [er1]; exact hS.size
            have hnr1r2 : r1 ≠ r2 := by have := (hwr2).lt; omega
            have hnr1r3 : r1 ≠ r3 := by have := (hwr3).lt; omega
            generalize w'.alloc (.cells (aRow (List.replicate 16 0)) 22) = w2 at *
            clear er1
            have hS2 := SinceM.trans hS hb2
            refine hK.out _ _ hS2 (fun _ => ?_)
            clear hK K'
            exact act_listM (by kernel_rfl) (by kernel_rfl) (st_2_9_10_11 w2 r1 r2 r3 hS2 hgr1 hwr1 hgr2 (SinceM.wh hb2 hwr2) hgr3 (SinceM.wh hb2 hwr3) hnr1r2 hnr1r3 hnr2r3)
        have st_9_10_11 : ∀ (w' : World) (r1 : Nat) (r2 : Nat) (r3 : Nat), SinceM w0 w' → w0.heap.size ≤ r1 → Wh w' r1 22 (aRow (List.replicate 16 0)) → w0.heap.size ≤ r2 → Wh w' r2 22 (aRow (List.replicate 16 0)) → w0.heap.size ≤ r3 → Wh w' r3 22 (aRow (List.replicate 16 0)) → r1 ≠ r2 → r1 ≠ r3 → r2 ≠ r3 → wpAnyH Try.prog .any OPS QQ (fun w' => SinceM w0 w') 6 #[true, true, false, true, true, false, true, true, false, true, true, true, false, false, false] (((a0.put (some 9) (.pointer (some ⟨r1, 0, none⟩))).put (some 10) (.pointer (some ⟨r2, 0, none⟩))).put (some 11) (.pointer (some ⟨r3, 0, none⟩))) w' := by
          intro w' r1 r2 r3 hS hgr1 hwr1 hgr2 hwr2 hgr3 hwr3 hnr1r2 hnr1r3 hnr2r3
          subst hO hQ hA
          refine wpAnyH_ready (rs := [2]) (by kernel_rfl) (by simp) (AllReadyH.cons (List.getElem?_toArray.trans rfl) (fun K' hK => ?_) AllReadyH.nil)
          · refine wanted_goM rfl ?_
            go_simp
            refine (HH1.out w' hS).mono ?_
            rintro e w2 ⟨rfl, hb2⟩
            have hS2 := SinceM.trans hS hb2
            refine hK.out _ _ hS2 (fun _ => ?_)
            clear hK K'
            exact act_listM (by kernel_rfl) (by kernel_rfl) (st_2_9_10_11 w2 r1 r2 r3 hS2 hgr1 (SinceM.wh hb2 hwr1) hgr2 (SinceM.wh hb2 hwr2) hgr3 (SinceM.wh hb2 hwr3) hnr1r2 hnr1r3 hnr2r3)
        have st_2_5 : ∀ (w' : World), SinceM w0 w' → wpAnyH Try.prog .any OPS QQ (fun w' => SinceM w0 w') 7 #[true, true, true, true, true, true, true, true, false, false, false, false, false, false, false] ((a0.put (some 46) (.agg (aRow xh))).put (some 49) (.agg (aRow yh))) w' := by
          intro w'  hS
          subst hO hQ hA
          refine wpAnyH_ready (rs := [8, 9, 10, 11]) (by kernel_rfl) (by simp) (AllReadyH.cons (List.getElem?_toArray.trans rfl) (fun K' hK => ?_) (AllReadyH.cons (List.getElem?_toArray.trans rfl) (fun K' hK => ?_) (AllReadyH.cons (List.getElem?_toArray.trans rfl) (fun K' hK => ?_) (AllReadyH.cons (List.getElem?_toArray.trans rfl) (fun K' hK => ?_) AllReadyH.nil))))
          · refine wanted_goM rfl ?_
            go_simp
            refine (HH3.out w' hS).mono ?_
            rintro e w2 ⟨rfl, hb2⟩
            have hS2 := SinceM.trans hS hb2
            refine hK.out _ _ hS2 (fun _ => ?_)
            clear hK K'
            exact act_listM (by kernel_rfl) (by kernel_rfl) (st_2_5_8 w2 hS2)
          · refine wanted_goM rfl ?_
            go_simp
            rw [zeros16]
            obtain ⟨r1, er1⟩ : ∃ r, r = w'.heap.size := ⟨_, rfl⟩
            rw [← er1]
            have hb2 : SinceM w' (w'.alloc (.cells (aRow (List.replicate 16 0)) 22)) := (Below.refl _ _).alloc (Nat.le_refl _) _
            have hwr1 : Wh (w'.alloc (.cells (aRow (List.replicate 16 0)) 22)) r1 22 (aRow (List.replicate 16 0)) := by rw [er1]; exact Wh.new _ _ _
            have hgr1 : w0.heap.size ≤ r1 := by rw [er1]; exact hS.size
            generalize w'.alloc (.cells (aRow (List.replicate 16 0)) 22) = w2 at *
            clear er1
            have hS2 := SinceM.trans hS hb2
            refine hK.out _ _ hS2 (fun _ => ?_)
            clear hK K'
            exact act_listM (by kernel_rfl) (by kernel_rfl) (st_2_5_9 w2 r1 hS2 hgr1 hwr1)
          · refine wanted_goM rfl ?_
            go_simp
            rw [zeros16]
            obtain ⟨r2, er2⟩ : ∃ r, r = w'.heap.size := ⟨_, rfl⟩
            rw [← er2]
            have hb2 : SinceM w' (w'.alloc (.cells (aRow (List.replicate 16 0)) 22)) := (Below.refl _ _).alloc (Nat.le_refl _) _
            have hwr2 : Wh (w'.alloc (.cells (aRow (List.replicate 16 0)) 22)) r2 22 (aRow (List.replicate 16 0)) := by rw [er2]; exact Wh.new _ _ _
            have hgr2 : w0.heap.size ≤ r2 := by rw [er2]; exact hS.size
            generalize w'.alloc (.cells (aRow (List.replicate 16 0)) 22) = w2 at *
            clear er2
            have hS2 := SinceM.trans hS hb2
            refine hK.out _ _ hS2 (fun _ => ?_)
            clear hK K'
            exact act_listM (by kernel_rfl) (by kernel_rfl) (st_2_5_10 w2 r2 hS2 hgr2 hwr2)
          · refine wanted_goM rfl ?_
            go_simp
            rw [zeros16]
            obtain ⟨r3, er3⟩ : ∃ r, r = w'.heap.size := ⟨_, rfl⟩
            rw [← er3]
            have hb2 : SinceM w' (w'.alloc (.cells (aRow (List.replicate 16 0)) 22)) := (Below.refl _ _).alloc (Nat.le_refl _) _
            have hwr3 : Wh (w'.alloc (.cells (aRow (List.replicate 16 0)) 22)) r3 22 (aRow (List.replicate 16 0)) := by rw [er3]; exact Wh.new _ _ _
            have hgr3 : w0.heap.size ≤ r3 := by rw [er3]; exact hS.size
            generalize w'.alloc (.cells (aRow (List.replicate 16 0)) 22) = w2 at *
            clear er3
            have hS2 := SinceM.trans hS hb2
            refine hK.out _ _ hS2 (fun _ => ?_)
            clear hK K'
            exact act_listM (by kernel_rfl) (by kernel_rfl) (st_2_5_11 w2 r3 hS2 hgr3 hwr3)
        have st_2_9 : ∀ (w' : World) (r1 : Nat), SinceM w0 w' → w0.heap.size ≤ r1 → Wh w' r1 22 (aRow (List.replicate 16 0)) → wpAnyH Try.prog .any OPS QQ (fun w' => SinceM w0 w') 7 #[true, true, true, true, true, false, true, true, false, true, false, false, false, false, false] ((a0.put (some 46) (.agg (aRow xh))).put (some 9) (.pointer (some ⟨r1, 0, none⟩))) w' := by
          intro w' r1 hS hgr1 hwr1
          subst hO hQ hA
          refine wpAnyH_ready (rs := [5, 10, 11]) (by kernel_rfl) (by simp) (AllReadyH.cons (List.getElem?_toArray.trans rfl) (fun K' hK => ?_) (AllReadyH.cons (List.getElem?_toArray.trans rfl) (fun K' hK => ?_) (AllReadyH.cons (List.getElem?_toArray.trans rfl) (fun K' hK => ?_) AllReadyH.nil)))
          · refine wanted_goM rfl ?_
            go_simp
            refine (HH2.out w' hS).mono ?_
            rintro e w2 ⟨rfl, hb2⟩
            have hS2 := SinceM.trans hS hb2
            refine hK.out _ _ hS2 (fun _ => ?_)
            clear hK K'
            exact act_listM (by kernel_rfl) (by kernel_rfl) (st_2_5_9 w2 r1 hS2 hgr1 (SinceM.wh hb2 hwr1))
          · refine wanted_goM rfl ?_
            go_simp
            rw [zeros16]
            obtain ⟨r2, er2⟩ : ∃ r, r = w'.heap.size := ⟨_, rfl⟩
            rw [← er2]
            have hb2 : SinceM w' (w'.alloc (.cells (aRow (List.replicate 16 0)) 22)) := (Below.refl _ _).alloc (Nat.le_refl _) _
            have hwr2 : Wh (w'.alloc (.cells (aRow (List.replicate 16 0)) 22)) r2 22 (aRow (List.replicate 16 0)) := by rw [er2]; exact Wh.new _ _ _
            have hgr2 : w0.heap.size ≤ r2 := by rw [er2]; exact hS.size
            have hnr1r2 : r1 ≠ r2 := by have := (hwr1).lt; omega
            generalize w'.alloc (.cells (aRow (List.replicate 16 0)) 22) = w2 at *
            clear er2
            have hS2 := SinceM.trans hS hb2
            refine hK.out _ _ hS2 (fun _ => ?_)
            clear hK K'
            exact act_listM (by kernel_rfl) (by kernel_rfl) (st_2_9_10 w2 r1 r2 hS2 hgr1 (SinceM.wh hb2 hwr1) hgr2 hwr2 hnr1r2)
          · refine wanted_goM rfl ?_
            go_simp
            rw [zeros16]
            obtain ⟨r3, er3⟩ : ∃ r, r = w'.heap.size := ⟨_, rfl⟩
            rw [← er3]
            have hb2 : SinceM w' (w'.alloc (.cells (aRow (List.replicate 16 0)) 22)) := (Below.refl _ _).alloc (Nat.le_refl _) _
            have hwr3 : Wh (w'.alloc (.cells (aRow (List.replicate 16 0)) 22)) r3 22 (aRow (List.replicate 16 0)) := by rw [er3]; exact Wh.new _ _ _
            have hgr3 : w0.heap.size ≤ r3 := by rw [er3]; exact hS.size
            have hnr1r3 : r1 ≠ r3 := by have := (hwr1).lt; omega
            generalize w'.alloc (.cells (aRow (List.replicate 16 0)) 22) = w2 at *
            clear er3
            have hS2 := SinceM.trans hS hb2
            refine hK.out _ _ hS2 (fun _ => ?_)
            clear hK K'
            exact act_listM (by kernel_rfl) (by kernel_rfl) (st_2_9_11 w2 r1 r3 hS2 hgr1 (SinceM.wh hb2 hwr1) hgr3 hwr3 hnr1r3)
        have st_2_10 : ∀ (w' : World) (r2 : Nat), SinceM w0 w' → w0.heap.size ≤ r2 → Wh w' r2 22 (aRow (List.replicate 16 0)) → wpAnyH Try.prog .any OPS QQ (fun w' => SinceM w0 w') 7 #[true, true, true, true, true, false, true, true, false, false, true, false, false, false, false] ((a0.put (some 46) (.agg (aRow xh))).put (some 10) (.pointer (some ⟨r2, 0, none⟩))) w' := by
          intro w' r2 hS hgr2 hwr2
          subst hO hQ hA
          refine wpAnyH_ready (rs := [5, 9, 11]) (by kernel_rfl) (by simp) (AllReadyH.cons (List.getElem?_toArray.trans rfl) (fun K' hK => ?_) (AllReadyH.cons (List.getElem?_toArray.trans rfl) (fun K' hK => ?_) (AllReadyH.cons (List.getElem?_toArray.trans rfl) (fun K' hK => ?_) AllReadyH.nil)))
          · refine wanted_goM rfl ?_
            go_simp
            refine (HH2.out w' hS).mono ?_
            rintro e w2 ⟨rfl, hb2⟩
            have hS2 := SinceM.trans hS hb2
            refine hK.out _ _ hS2 (fun _ => ?_)
            clear hK K'
            exact act_listM (by kernel_rfl) (by kernel_rfl) (st_2_5_10 w2 r2 hS2 hgr2 (SinceM.wh hb2 hwr2))
          · refine wanted_goM rfl ?_
            go_simp
            rw [zeros16]
            obtain ⟨r1, er1⟩ : ∃ r, r = w'.heap.size := ⟨_, rfl⟩
            rw [← er1]
            have hb2 : SinceM w' (w'.alloc (.cells (aRow (List.replicate 16 0)) 22)) := (Below.refl _ _).alloc (Nat.le_refl _) _
            have hwr1 : Wh (w'.alloc (.cells (aRow (List.replicate 16 0)) 22)) r1 22 (aRow (List.replicate 16 0)) := by rw [er1]; exact Wh.new _ _ _
            have hgr1 : w0.heap.size ≤ r1 := by rw [er1]; exact hS.size
            have hnr1r2 : r1 ≠ r2 := by have := (hwr2).lt; omega
            generalize w'.alloc (.cells (aRow (List.replicate 16 0)) 22) = w2 at *
            clear er1
            have hS2 := SinceM.trans hS hb2
            refine hK.out _ _ hS2 (fun _ => ?_)
            clear hK K'
            exact act_listM (by kernel_rfl) (by kernel_rfl) (st_2_9_10 w2 r1 r2 hS2 hgr1 hwr1 hgr2 (SinceM.wh hb2 hwr2) hnr1r2)
          · refine wanted_goM rfl ?_
            go_simp
            rw [zeros16]
            obtain ⟨r3, er3⟩ : ∃ r, r = w'.heap.size := ⟨_, rfl⟩
            rw [← er3]
            have hb2 : SinceM w' (w'.alloc (.cells (aRow (List.replicate 16 0)) 22)) := (Below.refl _ _).alloc (Nat.le_refl _) _
            have hwr3 : Wh (w'.alloc (.cells (aRow (List.replicate 16 0)) 22)) r3 22 (aRow (List.replicate 16 0)) := by rw [er3]; exact Wh.new _ _ _
            have hgr3 : w0.heap.size ≤ r3 := by rw [er3]; exact hS.size
            have hnr2r3 : r2 ≠ r3 := by have := (hwr2).lt; omega
            generalize w'.alloc (.cells (aRow (List.replicate 16 0)) 22) = w2 at *
            clear er3
            have hS2 := SinceM.trans hS hb2
            refine hK.out _ _ hS2 (fun _ => ?_)
            clear hK K'
            exact act_listM (by kernel_rfl) (by kernel_rfl) (st_2_10_11 w2 r2 r3 hS2 hgr2 (SinceM.wh hb2 hwr2) hgr3 hwr3 hnr2r3)
        have st_2_11 : ∀ (w' : World) (r3 : Nat), SinceM w0 w' → w0.heap.size ≤ r3 → Wh w' r3 22 (aRow (List.replicate 16 0)) → wpAnyH Try.prog .any OPS QQ (fun w' => SinceM w0 w') 7 #[true, true, true, true, true, false, true, true, false, false, false, true, false, false, false] ((a0.put (some 46) (.agg (aRow xh))).put (some 11) (.pointer (some ⟨r3, 0, none⟩))) w' := by
          intro w' r3 hS hgr3 hwr3
          subst hO hQ hA
          refine wpAnyH_ready (rs := [5, 9, 10]) (by kernel_rfl) (by simp) (AllReadyH.cons (List.getElem?_toArray.trans rfl) (fun K' hK => ?_) (AllReadyH.cons (List.getElem?_toArray.trans rfl) (fun K' hK => ?_) (AllReadyH.cons (List.getElem?_toArray.trans rfl) (fun K' hK => ?_) AllReadyH.nil)))
          · refine wanted_goM rfl ?_
            go_simp
            refine (HH2.out w' hS).mono ?_
            rintro e w2 ⟨rfl, hb2⟩
            have hS2 := SinceM.trans hS hb2
            refine hK.out _ _ hS2 (fun _ => ?_)
            clear hK K'
            exact act_listM (by kernel_rfl) (by kernel_rfl) (st_2_5_11 w2 r3 hS2 hgr3 (SinceM.wh hb2 hwr3))
          · refine wanted_goM rfl ?_
            go_simp
            rw [zeros16]
            obtain ⟨r1, er1⟩ : ∃ r, r = w'.heap.size := ⟨_, rfl⟩
            rw [← er1]
            have hb2 : SinceM w' (w'.alloc (.cells (aRow (List.replicate 16 0)) 22)) := (Below.refl _ _).alloc (Nat.le_refl _) _
            have hwr1 : Wh (w'.alloc (.cells (aRow (List.replicate 16 0)) 22)) r1 22 (aRow (List.replicate 16 0)) := by rw [er1]; exact Wh.new _ _ _
            have hgr1 : w0.heap.size ≤ r1 := by rw [er1]; exact hS.size
            have hnr1r3 : r1 ≠ r3 := by have := (hwr3).lt; omega
            generalize w'.alloc (.cells (aRow (List.replicate 16 0)) 22) = w2 at *
            clear er1
            have hS2 := SinceM.trans hS hb2
            refine hK.out _ _ hS2 (fun _ => ?_)
            clear hK K'
            exact act_listM (by kernel_rfl) (by kernel_rfl) (st_2_9_11 w2 r1 r3 hS2 hgr1 hwr1 hgr3 (SinceM.wh hb2 hwr3) hnr1r3)
          · refine wanted_goM rfl ?_
            go_simp
            rw [zeros16]
            obtain ⟨r2, er2⟩ : ∃ r, r = w'.heap.size := ⟨_, rfl⟩
            rw [← er2]
            have hb2 : SinceM w' (w'.alloc (.cells (aRow (List.replicate 16 0)) 22)) := (Below.refl _ _).alloc (Nat.le_refl _) _
            have hwr2 : Wh (w'.alloc (.cells (aRow (List.replicate 16 0)) 22)) r2 22 (aRow (List.replicate 16 0)) := by rw [er2]; exact Wh.new _ _ _
            have hgr2 : w0.heap.size ≤ r2 := by rw [er2]; exact hS.size
            have hnr2r3 : r2 ≠ r3 := by have := (hwr3).lt; omega
            generalize w'.alloc (.cells (aRow (List.replicate 16 0)) 22) = w2 at *
            clear er2
            have hS2 := SinceM.trans hS hb2
            refine hK.out _ _ hS2 (fun _ => ?_)
            clear hK K'
            exact act_listM (by kernel_rfl) (by kernel_rfl) (st_2_10_11 w2 r2 r3 hS2 hgr2 hwr2 hgr3 (SinceM.wh hb2 hwr3) hnr2r3)
        have st_9_10 : ∀ (w' : World) (r1 : Nat) (r2 : Nat), SinceM w0 w' → w0.heap.size ≤ r1 → Wh w' r1 22 (aRow (List.replicate 16 0)) → w0.heap.size ≤ r2 → Wh w' r2 22 (aRow (List.replicate 16 0)) → r1 ≠ r2 → wpAnyH Try.prog .any OPS QQ (fun w' => SinceM w0 w') 7 #[true, true, false, true, true, false, true, true, false, true, true, false, false, false, false] ((a0.put (some 9) (.pointer (some ⟨r1, 0, none⟩))).put (some 10) (.pointer (some ⟨r2, 0, none⟩))) w' := by
          intro w' r1 r2 hS hgr1 hwr1 hgr2 hwr2 hnr1r2
          subst hO hQ hA
          refine wpAnyH_ready (rs := [2, 11]) (by kernel_rfl) (by simp) (AllReadyH.cons (List.getElem?_toArray.trans rfl) (fun K' hK => ?_) (AllReadyH.cons (List.getElem?_toArray.trans rfl) (fun K' hK => ?_) AllReadyH.nil))
          · refine wanted_goM rfl ?_
            go_simp
            refine (HH1.out w' hS).mono ?_
            rintro e w2 ⟨rfl, hb2⟩
            have hS2 := SinceM.trans hS hb2
            refine hK.out _ _ hS2 (fun _ => ?_)
            clear hK K'
            exact act_listM (by kernel_rfl) (by kernel_rfl) (st_2_9_10 w2 r1 r2 hS2 hgr1 (SinceM.wh hb2 hwr1) hgr2 (SinceM.wh hb2 hwr2) hnr1r2)
          · refine wanted_goM rfl ?_
            go_simp
            rw [zeros16]
            obtain ⟨r3, er3⟩ : ∃ r, r = w'.heap.size := ⟨_, rfl⟩
            rw [← er3]
            have hb2 : SinceM w' (w'.alloc (.cells (aRow (List.replicate 16 0)) 22)) := (Below.refl _ _).alloc (Nat.le_refl _) _
            have hwr3 : Wh (w'.alloc (.cells (aRow (List.replicate 16 0)) 22)) r3 22 (aRow (List.replicate 16 0)) := by rw [er3]; exact Wh.new _ _ _
            have hgr3 : w0.heap.size ≤ r3 := by rw [er3]; exact hS.size
            have hnr1r3 : r1 ≠ r3 := by have := (hwr1).lt; omega
            have hnr2r3 : r2 ≠ r3 := by have := (hwr2).lt; omega
            generalize w'.alloc (.cells (aRow (List.replicate 16 0)) 22) = w2 at *
            clear er3
            have hS2 := SinceM.trans hS hb2
            refine hK.out _ _ hS2 (fun _ => ?_)
            clear hK K'
            exact act_listM (by kernel_rfl) (by kernel_rfl) (st_9_10_11 w2 r1 r2 r3 hS2 hgr1 (SinceM.wh hb2 hwr1) hgr2 (SinceM.wh hb2 hwr2) hgr3 hwr3 hnr1r2 hnr1r3 hnr2r3)
        have st_9_11 : ∀ (w' : World) (r1 : Nat) (r3 : Nat), SinceM w0 w' → w0.heap.size ≤ r1 → Wh w' r1 22 (aRow (List.replicate 16 0)) → w0.heap.size ≤ r3 → Wh w' r3 22 (aRow (List.replicate 16 0)) → r1 ≠ r3 → wpAnyH Try.prog .any OPS QQ (fun w' => SinceM w0 w') 7 #[true, true, false, true, true, false, true, true, false, true, false, true, false, false, false] ((a0.put (some 9) (.pointer (some ⟨r1, 0, none⟩))).put (some 11) (.pointer (some ⟨r3, 0, none⟩))) w' := by
          intro w' r1 r3 hS hgr1 hwr1 hgr3 hwr3 hnr1r3
          subst hO hQ hA
          refine wpAnyH_ready (rs := [2, 10]) (by kernel_rfl) (by simp) (AllReadyH.cons (List.getElem?_toArray.trans rfl) (fun K' hK => ?_) (AllReadyH.cons (List.getElem?_toArray.trans rfl) (fun K' hK => ?_) AllReadyH.nil))
          · refine wanted_goM rfl ?_
            go_simp
            refine (HH1.out w' hS).mono ?_
            rintro e w2 ⟨rfl, hb2⟩
            have hS2 := SinceM.trans hS hb2
            refine hK.out _ _ hS2 (fun _ => ?_)
            clear hK K'
            exact act_listM (by kernel_rfl) (by kernel_rfl) (st_2_9_11 w2 r1 r3 hS2 hgr1 (SinceM.wh hb2 hwr1) hgr3 (SinceM.wh hb2 hwr3) hnr1r3)
          · refine wanted_goM rfl ?_
            go_simp
            rw [zeros16]
            obtain ⟨r2, er2⟩ : ∃ r, r = w'.heap.size := ⟨_, rfl⟩
            rw [← er2]
            have hb2 : SinceM w' (w'.alloc (.cells (aRow (List.replicate 16 0)) 22)) := (Below.refl _ _).alloc (Nat.le_refl _) _
            have hwr2 : Wh (w'.alloc (.cells (aRow (List.replicate 16 0)) 22)) r2 22 (aRow (List.replicate 16 0)) := by rw [er2]; exact Wh.new _ _ _
            have hgr2 : w0.heap.size ≤ r2 := by rw [er2]; exact hS.size
            have hnr1r2 : r1 ≠ r2 := by have := (hwr1).lt; omega
            have hnr2r3 : r2 ≠ r3 := by have := (hwr3).lt; omega
            generalize w'.alloc (.cells (aRow (List.replicate 16 0)) 22) = w2 at *
            clear er2
            have hS2 := SinceM.trans hS hb2
            refine hK.out _ _ hS2 (fun _ => ?_)
            clear hK K'
            exact act_listM (by kernel_rfl) (by kernel_rfl) (st_9_10_11 w2 r1 r2 r3 hS2 hgr1 (SinceM.wh hb2 hwr1) hgr2 hwr2 hgr3 (SinceM.wh hb2 hwr3) hnr1r2 hnr1r3 hnr2r3)
        have st_10_11 : ∀ (w' : World) (r2 : Nat) (r3 : Nat), SinceM w0 w' → w0.heap.size ≤ r2 → Wh w' r2 22 (aRow (List.replicate 16 0)) → w0.heap.size ≤ r3 → Wh w' r3 22 (aRow (List.replicate 16 0)) → r2 ≠ r3 → wpAnyH Try.prog .any OPS QQ (fun w' => SinceM w0 w') 7 #[true, true, false, true, true, false, true, true, false, false, true, true, false, false, false] ((a0.put (some 10) (.pointer (some ⟨r2, 0, none⟩))).put (some 11) (.pointer (some ⟨r3, 0, none⟩))) w' := by
          intro w' r2 r3 hS hgr2 hwr2 hgr3 hwr3 hnr2r3
          subst hO hQ hA
          refine wpAnyH_ready (rs := [2, 9]) (by kernel_rfl) (by simp) (AllReadyH.cons (List.getElem?_toArray.trans rfl) (fun K' hK => ?_) (AllReadyH.cons (List.getElem?_toArray.trans rfl) (fun K' hK => ?_) AllReadyH.nil))
          · refine wanted_goM rfl ?_
            go_simp
            refine (HH1.out w' hS).mono ?_
            rintro e w2 ⟨rfl, hb2⟩
            have hS2 := SinceM.trans hS hb2
            refine hK.out _ _ hS2 (fun _ => ?_)
            clear hK K'
            exact act_listM (by kernel_rfl) (by kernel_rfl) (st_2_10_11 w2 r2 r3 hS2 hgr2 (SinceM.wh hb2 hwr2) hgr3 (SinceM.wh hb2 hwr3) hnr2r3)
          · refine wanted_goM rfl ?_
            go_simp
            rw [zeros16]
            obtain ⟨r1, er1⟩ : ∃ r, r = w'.heap.size := ⟨_, rfl⟩
            rw [← er1]
            have hb2 : SinceM w' (w'.alloc (.cells (aRow (List.replicate 16 0)) 22)) := (Below.refl _ _).alloc (Nat.le_refl _) _
            have hwr1 : Wh (w'.alloc (.cells (aRow (List.replicate 16 0)) 22)) r1 22 (aRow (List.replicate 16 0)) := by rw [er1]; exact Wh.new _ _ _
            have hgr1 : w0.heap.size ≤ r1 := by rw [er1]; exact hS.size
            have hnr1r2 : r1 ≠ r2 := by have := (hwr2).lt; omega
            have hnr1r3 : r1 ≠ r3 := by have := (hwr3).lt; omega
            generalize w'.alloc (.cells (aRow (List.replicate 16 0)) 22) = w2 at *
            clear er1
            have hS2 := SinceM.trans hS hb2
            refine hK.out _ _ hS2 (fun _ => ?_)
            clear hK K'
            exact act_listM (by kernel_rfl) (by kernel_rfl) (st_9_10_11 w2 r1 r2 r3 hS2 hgr1 hwr1 hgr2 (SinceM.wh hb2 hwr2) hgr3 (SinceM.wh hb2 hwr3) hnr1r2 hnr1r3 hnr2r3)
        have st_2 : ∀ (w' : World), SinceM w0 w' → wpAnyH Try.prog .any OPS QQ (fun w' => SinceM w0 w') 8 #[true, true, true, true, true, false, true, true, false, false, false, false, false, false, false] (a0.put (some 46) (.agg (aRow xh))) w' := by
          intro w'  hS
          subst hO hQ hA
          refine wpAnyH_ready (rs := [5, 9, 10, 11]) (by kernel_rfl) (by simp) (AllReadyH.cons (List.getElem?_toArray.trans rfl) (fun K' hK => ?_) (AllReadyH.cons (List.getElem?_toArray.trans rfl) (fun K' hK => ?_) (AllReadyH.cons (List.getElem?_toArray.trans rfl) (fun K' hK => ?_) (AllReadyH.cons (List.getElem?_toArray.trans rfl) (fun K' hK => ?_) AllReadyH.nil))))
          · refine wanted_goM rfl ?_
            go_simp
            refine (HH2.out w' hS).mono ?_
            rintro e w2 ⟨rfl, hb2⟩
            have hS2 := SinceM.trans hS hb2
            refine hK.out _ _ hS2 (fun _ => ?_)
            clear hK K'
            exact act_listM (by kernel_rfl) (by kernel_rfl) (st_2_5 w2 hS2)
          · refine wanted_goM rfl ?_
            go_simp
            rw [zeros16]
            obtain ⟨r1, er1⟩ : ∃ r, r = w'.heap.size := ⟨_, rfl⟩
            rw [← er1]
            have hb2 : SinceM w' (w'.alloc (.cells (aRow (List.replicate 16 0)) 22)) := (Below.refl _ _).alloc (Nat.le_refl _) _
            have hwr1 : Wh (w'.alloc (.cells (aRow (List.replicate 16 0)) 22)) r1 22 (aRow (List.replicate 16 0)) := by rw [er1]; exact Wh.new _ _ _
            have hgr1 : w0.heap.size ≤ r1 := by rw [er1]; exact hS.size
            generalize w'.alloc (.cells (aRow (List.replicate 16 0)) 22) = w2 at *
            clear er1
            have hS2 := SinceM.trans hS hb2
            refine hK.out _ _ hS2 (fun _ => ?_)
            clear hK K'
            exact act_listM (by kernel_rfl) (by kernel_rfl) (st_2_9 w2 r1 hS2 hgr1 hwr1)
          · refine wanted_goM rfl ?_
            go_simp
            rw [zeros16]
            obtain ⟨r2, er2⟩ : ∃ r, r = w'.heap.size := ⟨_, rfl⟩
            rw [← er2]
            have hb2 : SinceM w' (w'.alloc (.cells (aRow (List.replicate 16 0)) 22)) := (Below.refl _ _).alloc (Nat.le_refl _) _
            have hwr2 : Wh (w'.alloc (.cells (aRow (List.replicate 16 0)) 22)) r2 22 (aRow (List.replicate 16 0)) := by rw [er2]; exact Wh.new _ _ _
            have hgr2 : w0.heap.size ≤ r2 := by rw [er2]; exact hS.size
            generalize w'.alloc (.cells (aRow (List.replicate 16 0)) 22) = w2 at *
            clear er2
            have hS2 := SinceM.trans hS hb2
            refine hK.out _ _ hS2 (fun _ => ?_)
            clear hK K'
            exact act_listM (by kernel_rfl) (by kernel_rfl) (st_2_10 w2 r2 hS2 hgr2 hwr2)
          · refine wanted_goM rfl ?_
            go_simp
            rw [zeros16]
            obtain ⟨r3, er3⟩ : ∃ r, r = w'.heap.size := ⟨_, rfl⟩
            rw [← er3]
            have hb2 : SinceM w' (w'.alloc (.cells (aRow (List.replicate 16 0)) 22)) := (Below.refl _ _).alloc (Nat.le_refl _) _
            have hwr3 : Wh (w'.alloc (.cells (aRow (List.replicate 16 0)) 22)) r3 22 (aRow (List.replicate 16 0)) := by rw [er3]; exact Wh.new _ _ _
            have hgr3 : w0.heap.size ≤ r3 := by rw [er3]; exact hS.size
            generalize w'.alloc (.cells (aRow (List.replicate 16 0)) 22) = w2 at *
            clear er3
            have hS2 := SinceM.trans hS hb2
            refine hK.out _ _ hS2 (fun _ => ?_)
            clear hK K'
            exact act_listM (by kernel_rfl) (by kernel_rfl) (st_2_11 w2 r3 hS2 hgr3 hwr3)
        have st_9 : ∀ (w' : World) (r1 : Nat), SinceM w0 w' → w0.heap.size ≤ r1 → Wh w' r1 22 (aRow (List.replicate 16 0)) → wpAnyH Try.prog .any OPS QQ (fun w' => SinceM w0 w') 8 #[true, true, false, true, true, false, true, true, false, true, false, false, false, false, false] (a0.put (some 9) (.pointer (some ⟨r1, 0, none⟩))) w' := by
          intro w' r1 hS hgr1 hwr1
          subst hO hQ hA
          refine wpAnyH_ready (rs := [2, 10, 11]) (by kernel_rfl) (by simp) (AllReadyH.cons (List.getElem?_toArray.trans rfl) (fun K' hK => ?_) (AllReadyH.cons (List.getElem?_toArray.trans rfl) (fun K' hK => ?_) (AllReadyH.cons (List.getElem?_toArray.trans rfl) (fun K' hK => ?_) AllReadyH.nil)))
          · refine wanted_goM rfl ?_
            go_simp
            refine (HH1.out w' hS).mono ?_
            rintro e w2 ⟨rfl, hb2⟩
            have hS2 := SinceM.trans hS hb2
            refine hK.out _ _ hS2 (fun _ => ?_)
            clear hK K'
            exact act_listM (by kernel_rfl) (by kernel_rfl) (st_2_9 w2 r1 hS2 hgr1 (SinceM.wh hb2 hwr1))
          · refine wanted_goM rfl ?_
            go_simp
            rw [zeros16]
            obtain ⟨r2, er2⟩ : ∃ r, r = w'.heap.size := ⟨_, rfl⟩
            rw [← er2]
            have hb2 : SinceM w' (w'.alloc (.cells (aRow (List.replicate 16 0)) 22)) := (Below.refl _ _).alloc (Nat.le_refl _) _
            have hwr2 : Wh (w'.alloc (.cells (aRow (List.replicate 16 0)) 22)) r2 22 (aRow (List.replicate 16 0)) := by rw [er2]; exact Wh.new _ _ _
            have hgr2 : w0.heap.size ≤ r2 := by rw [er2]; exact hS.size
            have hnr1r2 : r1 ≠ r2 := by have := (hwr1).lt; omega
            generalize w'.alloc (.cells (aRow (List.replicate 16 0)) 22) = w2 at *
            clear er2
            have hS2 := SinceM.trans hS hb2
            refine hK.out _ _ hS2 (fun _ => ?_)
            clear hK K'
            exact act_listM (by kernel_rfl) (by kernel_rfl) (st_9_10 w2 r1 r2 hS2 hgr1 (SinceM.wh hb2 hwr1) hgr2 hwr2 hnr1r2)
          · refine wanted_goM rfl ?_
            go_simp
            rw [zeros16]
            obtain ⟨r3, er3⟩ : ∃ r, r = w'.heap.size := ⟨_, rfl⟩
            rw [← er3]
            have hb2 : SinceM w' (w'.alloc (.cells (aRow (List.replicate 16 0)) 22)) := (Below.refl _ _).alloc (Nat.le_refl _) _
            have hwr3 : Wh (w'.alloc (.cells (aRow (List.replicate 16 0)) 22)) r3 22 (aRow (List.replicate 16 0)) := by rw [er3]; exact Wh.new _ _ _
            have hgr3 : w0.heap.size ≤ r3 := by rw [er3]; exact hS.size
            have hnr1r3 : r1 ≠ r3 := by have := (hwr1).lt; omega
            generalize w'.alloc (.cells (aRow (List.replicate 16 0)) 22) = w2 at *
            clear er3
            have hS2 := SinceM.trans hS hb2
            refine hK.out _ _ hS2 (fun _ => ?_)
            clear hK K'
            exact act_listM (by kernel_rfl) (by kernel_rfl) (st_9_11 w2 r1 r3 hS2 hgr1 (SinceM.wh hb2 hwr1) hgr3 hwr3 hnr1r3)
        have st_10 : ∀ (w' : World) (r2 : Nat), SinceM w0 w' → w0.heap.size ≤ r2 → Wh w' r2 22 (aRow (List.replicate 16 0)) → wpAnyH Try.prog .any OPS QQ (fun w' => SinceM w0 w') 8 #[true, true, false, true, true, false, true, true, false, false, true, false, false, false, false] (a0.put (some 10) (.pointer (some ⟨r2, 0, none⟩))) w' := by
          intro w' r2 hS hgr2 hwr2
          subst hO hQ hA
          refine wpAnyH_ready (rs := [2, 9, 11]) (by kernel_rfl) (by simp) (AllReadyH.cons (List.getElem?_toArray.trans rfl) (fun K' hK => ?_) (AllReadyH.cons (List.getElem?_toArray.trans rfl) (fun K' hK => ?_) (AllReadyH.cons (List.getElem?_toArray.trans rfl) (fun K' hK => ?_) AllReadyH.nil)))
          · refine wanted_goM rfl ?_
            go_simp
            refine (HH1.out w' hS).mono ?_
            rintro e w2 ⟨rfl, hb2⟩
            have hS2 := SinceM.trans hS hb2
            refine hK.out _ _ hS2 (fun _ => ?_)
            clear hK K'
            exact act_listM (by kernel_rfl) (by kernel_rfl) (st_2_10 w2 r2 hS2 hgr2 (SinceM.wh hb2 hwr2))
          · refine wanted_goM rfl ?_
            go_simp
            rw [zeros16]
            obtain ⟨r1, er1⟩ : ∃ r, r = w'.heap.size := ⟨_, rfl⟩
            rw [← er1]
            have hb2 : SinceM w' (w'.alloc (.cells (aRow (List.replicate 16 0)) 22)) := (Below.refl _ _).alloc (Nat.le_refl _) _
            have hwr1 : Wh (w'.alloc (.cells (aRow (List.replicate 16 0)) 22)) r1 22 (aRow (List.replicate 16 0)) := by rw [er1]; exact Wh.new _ _ _
            have hgr1 : w0.heap.size ≤ r1 := by rw [er1]; exact hS.size
            have hnr1r2 : r1 ≠ r2 := by have := (hwr2).lt; omega
            generalize w'.alloc (.cells (aRow (List.replicate 16 0)) 22) = w2 at *
            clear er1
            have hS2 := SinceM.trans hS hb2
            refine hK.out _ _ hS2 (fun _ => ?_)
            clear hK K'
            exact act_listM (by kernel_rfl) (by kernel_rfl) (st_9_10 w2 r1 r2 hS2 hgr1 hwr1 hgr2 (SinceM.wh hb2 hwr2) hnr1r2)
          · refine wanted_goM rfl ?_
            go_simp
            rw [zeros16]
            obtain ⟨r3, er3⟩ : ∃ r, r = w'.heap.size := ⟨_, rfl⟩
            rw [← er3]
            have hb2 : SinceM w' (w'.alloc (.cells (aRow (List.replicate 16 0)) 22)) := (Below.refl _ _).alloc (Nat.le_refl _) _
            have hwr3 : Wh (w'.alloc (.cells (aRow (List.replicate 16 0)) 22)) r3 22 (aRow (List.replicate 16 0)) := by rw [er3]; exact Wh.new _ _ _
            have hgr3 : w0.heap.size ≤ r3 := by rw [er3]; exact hS.size
            have hnr2r3 : r2 ≠ r3 := by have := (hwr2).lt; omega
            generalize w'.alloc (.cells (aRow (List.replicate 16 0)) 22) = w2 at *
            clear er3
            have hS2 := SinceM.trans hS hb2
            refine hK.out _ _ hS2 (fun _ => ?_)
            clear hK K'
            exact act_listM (by kernel_rfl) (by kernel_rfl) (st_10_11 w2 r2 r3 hS2 hgr2 (SinceM.wh hb2 hwr2) hgr3 hwr3 hnr2r3)
        have st_11 : ∀ (w' : World) (r3 : Nat), SinceM w0 w' → w0.heap.size ≤ r3 → Wh w' r3 22 (aRow (List.replicate 16 0)) → wpAnyH Try.prog .any OPS QQ (fun w' => SinceM w0 w') 8 #[true, true, false, true, true, false, true, true, false, false, false, true, false, false, false] (a0.put (some 11) (.pointer (some ⟨r3, 0, none⟩))) w' := by
          intro w' r3 hS hgr3 hwr3
          subst hO hQ hA
          refine wpAnyH_ready (rs := [2, 9, 10]) (by kernel_rfl) (by simp) (AllReadyH.cons (List.getElem?_toArray.trans rfl) (fun K' hK => ?_) (AllReadyH.cons (List.getElem?_toArray.trans rfl) (fun K' hK => ?_) (AllReadyH.cons (List.getElem?_toArray.trans rfl) (fun K' hK => ?_) AllReadyH.nil)))
          · refine wanted_goM rfl ?_
            go_simp
            refine (HH1.out w' hS).mono ?_
            rintro e w2 ⟨rfl, hb2⟩
            have hS2 := SinceM.trans hS hb2
            refine hK.out _ _ hS2 (fun _ => ?_)
            clear hK K'
            exact act_listM (by kernel_rfl) (by kernel_rfl) (st_2_11 w2 r3 hS2 hgr3 (SinceM.wh hb2 hwr3))
          · refine wanted_goM rfl ?_
            go_simp
            rw [zeros16]
            obtain ⟨r1, er1⟩ : ∃ r, r = w'.heap.size := ⟨_, rfl⟩
            rw [← er1]
            have hb2 : SinceM w' (w'.alloc (.cells (aRow (List.replicate 16 0)) 22)) := (Below.refl _ _).alloc (Nat.le_refl _) _
            have hwr1 : Wh (w'.alloc (.cells (aRow (List.replicate 16 0)) 22)) r1 22 (aRow (List.replicate 16 0)) := by rw [er1]; exact Wh.new _ _ _
            have hgr1 : w0.heap.size ≤ r1 := by rw [er1]; exact hS.size
            have hnr1r3 : r1 ≠ r3 := by have := (hwr3).lt; omega
            generalize w'.alloc (.cells (aRow (List.replicate 16 0)) 22) = w2 at *
            clear er1
            have hS2 := SinceM.trans hS hb2
            refine hK.out _ _ hS2 (fun _ => ?_)
            clear hK K'
            exact act_listM (by kernel_rfl) (by kernel_rfl) (st_9_11 w2 r1 r3 hS2 hgr1 hwr1 hgr3 (SinceM.wh hb2 hwr3) hnr1r3)
          · refine wanted_goM rfl ?_
            go_simp
            rw [zeros16]
            obtain ⟨r2, er2⟩ : ∃ r, r = w'.heap.size := ⟨_, rfl⟩
            rw [← er2]
            have hb2 : SinceM w' (w'.alloc (.cells (aRow (List.replicate 16 0)) 22)) := (Below.refl _ _).alloc (Nat.le_refl _) _
            have hwr2 : Wh (w'.alloc (.cells (aRow (List.replicate 16 0)) 22)) r2 22 (aRow (List.replicate 16 0)) := by rw [er2]; exact Wh.new _ _ _
            have hgr2 : w0.heap.size ≤ r2 := by rw [er2]; exact hS.size
            have hnr2r3 : r2 ≠ r3 := by have := (hwr3).lt; omega
            generalize w'.alloc (.cells (aRow (List.replicate 16 0)) 22) = w2 at *
            clear er2
            have hS2 := SinceM.trans hS hb2
            refine hK.out _ _ hS2 (fun _ => ?_)
            clear hK K'
            exact act_listM (by kernel_rfl) (by kernel_rfl) (st_10_11 w2 r2 r3 hS2 hgr2 hwr2 hgr3 (SinceM.wh hb2 hwr3) hnr2r3)
        have st_none : ∀ (w' : World), SinceM w0 w' → wpAnyH Try.prog .any OPS QQ (fun w' => SinceM w0 w') 9 #[true, true, false, true, true, false, true, true, false, false, false, false, false, false, false] a0 w' := by
          intro w'  hS
          subst hO hQ hA
          refine wpAnyH_ready (rs := [2, 9, 10, 11]) (by kernel_rfl) (by simp) (AllReadyH.cons (List.getElem?_toArray.trans rfl) (fun K' hK => ?_) (AllReadyH.cons (List.getElem?_toArray.trans rfl) (fun K' hK => ?_) (AllReadyH.cons (List.getElem?_toArray.trans rfl) (fun K' hK => ?_) (AllReadyH.cons (List.getElem?_toArray.trans rfl) (fun K' hK => ?_) AllReadyH.nil))))
          · refine wanted_goM rfl ?_
            go_simp
            refine (HH1.out w' hS).mono ?_
            rintro e w2 ⟨rfl, hb2⟩
            have hS2 := SinceM.trans hS hb2
            refine hK.out _ _ hS2 (fun _ => ?_)
            clear hK K'
            exact act_listM (by kernel_rfl) (by kernel_rfl) (st_2 w2 hS2)
          · refine wanted_goM rfl ?_
            go_simp
            rw [zeros16]
            obtain ⟨r1, er1⟩ : ∃ r, r = w'.heap.size := ⟨_, rfl⟩
            rw [← er1]
            have hb2 : SinceM w' (w'.alloc (.cells (aRow (List.replicate 16 0)) 22)) := (Below.refl _ _).alloc (Nat.le_refl _) _
            have hwr1 : Wh (w'.alloc (.cells (aRow (List.replicate 16 0)) 22)) r1 22 (aRow (List.replicate 16 0)) := by rw [er1]; exact Wh.new _ _ _
            have hgr1 : w0.heap.size ≤ r1 := by rw [er1]; exact hS.size
            generalize w'.alloc (.cells (aRow (List.replicate 16 0)) 22) = w2 at *
            clear er1
            have hS2 := SinceM.trans hS hb2
            refine hK.out _ _ hS2 (fun _ => ?_)
            clear hK K'
            exact act_listM (by kernel_rfl) (by kernel_rfl) (st_9 w2 r1 hS2 hgr1 hwr1)
          · refine wanted_goM rfl ?_
            go_simp
            rw [zeros16]
            obtain ⟨r2, er2⟩ : ∃ r, r = w'.heap.size := ⟨_, rfl⟩
            rw [← er2]
            have hb2 : SinceM w' (w'.alloc (.cells (aRow (List.replicate 16 0)) 22)) := (Below.refl _ _).alloc (Nat.le_refl _) _
            have hwr2 : Wh (w'.alloc (.cells (aRow (List.replicate 16 0)) 22)) r2 22 (aRow (List.replicate 16 0)) := by rw [er2]; exact Wh.new _ _ _
            have hgr2 : w0.heap.size ≤ r2 := by rw [er2]; exact hS.size
            generalize w'.alloc (.cells (aRow (List.replicate 16 0)) 22) = w2 at *
            clear er2
            have hS2 := SinceM.trans hS hb2
            refine hK.out _ _ hS2 (fun _ => ?_)
            clear hK K'
            exact act_listM (by kernel_rfl) (by kernel_rfl) (st_10 w2 r2 hS2 hgr2 hwr2)
          · refine wanted_goM rfl ?_
            go_simp
            rw [zeros16]
            obtain ⟨r3, er3⟩ : ∃ r, r = w'.heap.size := ⟨_, rfl⟩
            rw [← er3]
            have hb2 : SinceM w' (w'.alloc (.cells (aRow (List.replicate 16 0)) 22)) := (Below.refl _ _).alloc (Nat.le_refl _) _
            have hwr3 : Wh (w'.alloc (.cells (aRow (List.replicate 16 0)) 22)) r3 22 (aRow (List.replicate 16 0)) := by rw [er3]; exact Wh.new _ _ _
            have hgr3 : w0.heap.size ≤ r3 := by rw [er3]; exact hS.size
            generalize w'.alloc (.cells (aRow (List.replicate 16 0)) 22) = w2 at *
            clear er3
            have hS2 := SinceM.trans hS hb2
            refine hK.out _ _ hS2 (fun _ => ?_)
            clear hK K'
            exact act_listM (by kernel_rfl) (by kernel_rfl) (st_11 w2 r3 hS2 hgr3 hwr3)
        exact act_listM (by kernel_rfl) rfl (st_none w0 (SinceM.self _))
      case rest =>
        obtain ⟨r1, r2, r3, rfl, rfl, rfl, HR1, HR2, HR3, HBC⟩ := hcut
        clear HBW HKW HXS HH1 HH2 HH3
        go_wp2_with fail
        go_loopw [12, 53] (fun _ i wr => ∃ j : Nat, j ≤ 16 ∧ i = .int .i64 (j : Int) ∧ Hid (Below wc.heap.size wc wr)) (fun _ i _ => 16 - (intOf i).toNat)
        case atStart => exact ⟨0, by omega, rfl, Lib.hid (Below.refl _ _)⟩
        case round =>
          obtain ⟨q, hq, rfl, HBQ⟩ := hrel
          by_cases hlt : q < 16
          · have hqd : decide ((q : Int) < 16) = true := by rw [decide_eq_true_iff]; omega
            have hqi : (q : Int) < 16 := by omega
            have hx := (((HR1.out.below HBQ.out HR1.out.lt).cell q).trans (aRow_at (by rw [HXL.out]; exact hlt)))
            have hy := (((HR2.out.below HBQ.out HR2.out.lt).cell q).trans (aRow_at (by rw [HYL.out]; exact hlt)))
            have hz := (((HR3.out.below HBQ.out HR3.out.lt).cell q).trans (aRow_at (by rw [HZL.out]; exact hlt)))
            have he : zh.getD q 0 = xh.getD q 0 ^^^ yh.getD q 0 := by
              rw [HJN.out, xoG, List.getD_eq_getElem?_getD, List.getElem?_zipWith, List.getD_eq_getElem?_getD, List.getD_eq_getElem?_getD, List.getElem?_eq_getElem (by rw [HXL.out]; exact hlt), List.getElem?_eq_getElem (by rw [HYL.out]; exact hlt)]
              rfl
            obtain ⟨x, hx0⟩ : ∃ x, x = xh.getD q 0 := ⟨_, rfl⟩
            obtain ⟨y, hy0⟩ : ∃ y, y = yh.getD q 0 := ⟨_, rfl⟩
            obtain ⟨z, hz0⟩ : ∃ z, z = zh.getD q 0 := ⟨_, rfl⟩
            rw [← hx0] at hx he
            rw [← hy0] at hy he
            rw [← hz0] at hz he
            have HE := Deep.mk he
            have HXC : Hid (wr.drew.cell? ⟨r1, q, none⟩ = some (.int .u8 (x.toNat : Int))) := Lib.hid hx
            have HYC : Hid (wr.drew.cell? ⟨r2, q, none⟩ = some (.int .u8 (y.toNat : Int))) := Lib.hid hy
            have HZC : Hid (wr.drew.cell? ⟨r3, q, none⟩ = some (.int .u8 (z.toNat : Int))) := Lib.hid hz
            clear hx hy hz he hx0 hy0 hz0
            go_wp2_with fail
            refine wp_region_held_drew (S := fun w' => w' = wr.drew) (by kernel_rfl) rfl (fun _ => ?_)
            refine wpAnyH_take (i := 0) (v := .int .i64 (q : Int)) (List.getElem?_toArray.trans rfl) (by kernel_rfl) (by kernel_rfl) (by kernel_rfl) (fun _ _ _ h => h) (.inl ⟨rfl, fun w' hS => rfl⟩) rfl ?_
            refine act_normM (by simp only [Act.put, List.setIfInBounds_toArray, List.set_cons_zero, List.set_cons_succ]; rfl) ?_
            refine wpAnyH_take (i := 1) (v := .pointer (some ⟨r3, q, none⟩)) (List.getElem?_toArray.trans rfl) (by kernel_rfl) (by kernel_rfl) (by kernel_rfl) (fun _ _ _ h => h) (.inl ⟨rfl, fun w' hS => by simp [go_sem, hqi]⟩) rfl ?_
            refine act_normM (by simp only [Act.put, List.setIfInBounds_toArray, List.set_cons_zero, List.set_cons_succ]; rfl) ?_
            refine wpAnyH_take (i := 2) (v := .int .u8 (z.toNat : Int)) (List.getElem?_toArray.trans rfl) (by kernel_rfl) (by kernel_rfl) (by kernel_rfl) (fun _ _ _ h => h) (.inl ⟨rfl, fun w' hS => by have hc := HZC.out; rw [← hS] at hc; simp [go_sem, hc]⟩) rfl ?_
            refine act_normM (by simp only [Act.put, List.setIfInBounds_toArray, List.set_cons_zero, List.set_cons_succ]; rfl) ?_
            refine wpAnyH_take (i := 3) (v := .int .i64 (q : Int)) (List.getElem?_toArray.trans rfl) (by kernel_rfl) (by kernel_rfl) (by kernel_rfl) (fun _ _ _ h => h) (.inl ⟨rfl, fun w' hS => rfl⟩) rfl ?_
            refine act_normM (by simp only [Act.put, List.setIfInBounds_toArray, List.set_cons_zero, List.set_cons_succ]; rfl) ?_
            refine wpAnyH_take (i := 4) (v := .pointer (some ⟨r1, q, none⟩)) (List.getElem?_toArray.trans rfl) (by kernel_rfl) (by kernel_rfl) (by kernel_rfl) (fun _ _ _ h => h) (.inl ⟨rfl, fun w' hS => by simp [go_sem, hqi]⟩) rfl ?_
            refine act_normM (by simp only [Act.put, List.setIfInBounds_toArray, List.set_cons_zero, List.set_cons_succ]; rfl) ?_
            refine wpAnyH_take (i := 5) (v := .int .u8 (x.toNat : Int)) (List.getElem?_toArray.trans rfl) (by kernel_rfl) (by kernel_rfl) (by kernel_rfl) (fun _ _ _ h => h) (.inl ⟨rfl, fun w' hS => by have hc := HXC.out; rw [← hS] at hc; simp [go_sem, hc]⟩) rfl ?_
            refine act_normM (by simp only [Act.put, List.setIfInBounds_toArray, List.set_cons_zero, List.set_cons_succ]; rfl) ?_
            refine wpAnyH_take (i := 6) (v := .int .i64 (q : Int)) (List.getElem?_toArray.trans rfl) (by kernel_rfl) (by kernel_rfl) (by kernel_rfl) (fun _ _ _ h => h) (.inl ⟨rfl, fun w' hS => rfl⟩) rfl ?_
            refine act_normM (by simp only [Act.put, List.setIfInBounds_toArray, List.set_cons_zero, List.set_cons_succ]; rfl) ?_
            refine wpAnyH_take (i := 7) (v := .pointer (some ⟨r2, q, none⟩)) (List.getElem?_toArray.trans rfl) (by kernel_rfl) (by kernel_rfl) (by kernel_rfl) (fun _ _ _ h => h) (.inl ⟨rfl, fun w' hS => by simp [go_sem, hqi]⟩) rfl ?_
            refine act_normM (by simp only [Act.put, List.setIfInBounds_toArray, List.set_cons_zero, List.set_cons_succ]; rfl) ?_
            refine wpAnyH_take (i := 8) (v := .int .u8 (y.toNat : Int)) (List.getElem?_toArray.trans rfl) (by kernel_rfl) (by kernel_rfl) (by kernel_rfl) (fun _ _ _ h => h) (.inl ⟨rfl, fun w' hS => by have hc := HYC.out; rw [← hS] at hc; simp [go_sem, hc]⟩) rfl ?_
            refine act_normM (by simp only [Act.put, List.setIfInBounds_toArray, List.set_cons_zero, List.set_cons_succ]; rfl) ?_
            refine wpAnyH_take (i := 9) (v := .int .u8 (z.toNat : Int)) (List.getElem?_toArray.trans rfl) (by kernel_rfl) (by kernel_rfl) (by kernel_rfl) (fun _ _ _ h => h) (.inl ⟨rfl, fun w' hS => by rw [HE.out, ← b_xor]; simp [go_sem]⟩) rfl ?_
            refine act_normM (by simp only [Act.put, List.setIfInBounds_toArray, List.set_cons_zero, List.set_cons_succ]; rfl) ?_
            refine wpAnyH_take (i := 10) (v := .bool false) (List.getElem?_toArray.trans rfl) (by kernel_rfl) (by kernel_rfl) (by kernel_rfl) (fun _ _ _ h => h) (.inl ⟨rfl, fun w' hS => by simp [go_sem]⟩) rfl ?_
            refine act_normM (by simp only [Act.put, List.setIfInBounds_toArray, List.set_cons_zero, List.set_cons_succ]; rfl) ?_
            refine wpAnyH_done (by kernel_rfl) ?_ _
            go_wp2
            exact ⟨⟨q + 1, by omega, by go_num, Lib.hid HBQ.out.drew⟩, by simp [intOf]; omega⟩
          · have hqd : decide ((q : Int) < 16) = false := by rw [decide_eq_false_iff_not]; omega
            have HF := Lib.hid (HBC.out.trans (HBQ.out.mono HBC.out.size))
            clear HBC HBQ hlt hq
            go_wp2
            go_ret
            exact ⟨rfl, HF.out⟩

theorem gcjoins_any (k l m : List UInt8) (A B : Option Addr) (c d : Nat) (w : World) (hk : k.length = 16) (hs : Sl w w.heap.size A l) (hlc : l.length ≤ c) (hcm : c ≤ maxLen)
    (ht : Sl w w.heap.size B m) (hmd : m.length ≤ d) (hdm : d ≤ maxLen) :
    Calls Try.prog 5 #[.agg (aRow k), .slice A l.length c, .slice B m.length d] w fun e w' => e = .returned (.bool true) ∧ Below w.heap.size w w' := by
  by_cases h : 600 < l.length ∨ l.length ≠ m.length
  · exact joins_early k l m A B c d w h
  · have e : m.length = l.length := by omega
    have h2 := joins_main k l m A B c d l.length w hk hs hlc hcm rfl ht (by omega) hdm e (by omega)
    rw [e]
    exact h2
end Go.Proofs.Ytajfpbkeabdcaaa
